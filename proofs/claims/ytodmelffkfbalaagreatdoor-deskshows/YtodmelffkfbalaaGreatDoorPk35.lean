import Derived.Test.YtodmelffkfbalaaGreatDoorPk28
import Derived.Test.YtodmelffkfbalaaGreatDoorPk33
import Derived.Test.YtodmelffkfbalaaGreatDoorPk20
import Derived.Test.YtodmelffkfbalaaGreatDoorPk24
open Go.Value renaming int->I,string->V,slice->Z
open Go.IntKind renaming i64->J
open Go.Obj renaming cells->K
open Go.Ending renaming returned->Y
open Option renaming none->U,some->M
open Bool renaming false->F
open Go renaming World->X
set_option maxHeartbeats 4000000
set_option maxRecDepth 100000
open Go.Proofs.Tryz
namespace Go.Proofs.YtodmelffkfbalaaGreatDoor
open Go.RowKit
theorem QS (s:ae)(w:X)(k:s.size<=100000)(a:dP s.data.toList=F):
 Calls prog 269 #[V s] w fun e w'=>tG w (ee s.data.toList) e w':=by
 have f:Hid (ee s.data.toList=.inl 3):=by unfold Hid ee;rw[if_pos a]
 have b:=rj s (w.alloc (K #[V ⟨#[]⟩,Z U 0 0] 244)) (by unfold maxLen;omega);rw[a] at b;have d:Below w.heap.size w (w.alloc (K #[V ⟨#[]⟩,Z U 0 0] 244)):=(ar _ _).alloc (am _) _;have g:(w.alloc (K #[V ⟨#[]⟩,Z U 0 0] 244)).cell? ⟨w.heap.size,0,U⟩=M (V ⟨#[]⟩):=World.cell?_alloc_mark w _ _ _ 0;have i:(w.alloc (K #[V ⟨#[]⟩,Z U 0 0] 244)).cell? ⟨w.heap.size,1,U⟩=M (Z U 0 0):=World.cell?_alloc_mark w _ _ _ 1;go_enter func269,ntmps269;go_wp2_with fail;refine b.mono ?_;rintro e l ⟨rfl,j⟩;subst j;go_wp2;refine aS (v:=.tuple #[.agg #[V ⟨#[]⟩,Z U 0 0],I J 3]) (by simp[results,results269,go_sem,g,i]) rfl (tG.a (c:=3) f.o ?_);first | exact d | exact(d.setCell (aM _) _).setCell (aM _) _
theorem M4 (s:ae)(w:X)(L:s.size<=100000)(N:dP s.data.toList=true):
 Calls prog 269 #[V s] w fun e w'=>tG w (ee s.data.toList) e w':=by
 have m:=NR s.data.toList N;have p:=rj s (w.alloc (K #[V ⟨#[]⟩,Z U 0 0] 244)) (by unfold maxLen;omega);rw[N] at p;have Ro:∀(T:Fn) (first b:Array Value) (w:X),(Instr.makeFunc T first b).run prog w=.ok (.func T first b) w:=fun _ _ _ _=>rfl;have q:Below w.heap.size w (w.alloc (K #[V ⟨#[]⟩,Z U 0 0] 244)):=(ar _ _).alloc (am _) _;have r1:(w.alloc (K #[V ⟨#[]⟩,Z U 0 0] 244)).heap[w.heap.size]? = M (K #[V ⟨#[]⟩,Z U 0 0] 244 (0,0)):=be w _;have g:Below (w.heap.size+1) (w.alloc (K #[V ⟨#[]⟩,Z U 0 0] 244)) ((w.alloc (K #[V ⟨#[]⟩,Z U 0 0] 244)).alloc (K #[V s,I J 0] 338)):=(ar _ _).alloc (by simp) _;have hz:(w.alloc (K #[V ⟨#[]⟩,Z U 0 0] 244)).heap.size=w.heap.size+1:=by simp
 have i:bC ((w.alloc (K #[V ⟨#[]⟩,Z U 0 0] 244)).alloc (K #[V s,I J 0] 338)) (w.heap.size+1) s 0:=by
  have:=be (w.alloc (K #[V ⟨#[]⟩,Z U 0 0] 244)) (K #[V s,I J 0] 338);rw[hz] at this;exact this
 have j:=(g.block _ (by omega)).trans r1;have W:Below w.heap.size w ((w.alloc (K #[V ⟨#[]⟩,Z U 0 0] 244)).alloc (K #[V s,I J 0] 338)):=q.trans (g.mono (by omega));have r:((w.alloc (K #[V ⟨#[]⟩,Z U 0 0] 244)).alloc (K #[V s,I J 0] 338)).heap.size=w.heap.size+2:=by simp
 cases n:mY s.data.toList 0 with
 | inl c =>
   rw[n] at m;go_enter func269,ntmps269;go_wp2_with fail;refine p.mono ?_;rintro e w1 ⟨rfl,t⟩;subst t;go_wp2_with fail;refine(QR s (w.heap.size+1) w.heap.size _ i L c n).mono ?_;rintro e d ⟨rfl,o⟩;have f:=o.q j (fun e=>by unfold bD at e;omega);have l:=W.trans (o.below (B:=w.heap.size) (fun k e=>by unfold bD at e;omega) (by simp;omega));have u:=aq d _ 0 _ _ _ f;have y:=aq d _ 1 _ _ _ f;have f0:=aP d _ 0 _ _ f;have f1:=aP d _ 1 _ _ f;go_wp2;refine aS (v:=.tuple #[.agg #[V ⟨#[]⟩,Z U 0 0],I J (c:Int)]) (by simp[results,results269,go_sem,u,y]) rfl (tG.a (c:=c) m ?_);first | exact l | exact(l.setCell (am _) _).setCell (am _) _
 | inr x =>
   rw[n] at m;have HC:=M3 s (w.heap.size+1) w.heap.size _ i j L x n;rw[r] at HC;go_enter func269,ntmps269;go_wp2_with fail;refine p.mono ?_;rintro e w1 ⟨rfl,t⟩;subst t;go_wp2_with fail;refine HC.mono ?_;rintro e d ⟨rfl,⟨z,C,ao,b,hd,D,G,H⟩,o⟩;have f:=aa hd;have l:=W.trans (o.below (B:=w.heap.size) (fun k e=>by unfold pR at e;omega) (by simp;omega));have HE:Bn (.inr x) z C 0:=⟨rfl,D,G⟩;have u:=aq d _ 0 _ _ _ f;have y:=aq d _ 1 _ _ _ f;have f0:=aP d _ 0 _ _ f;have f1:=aP d _ 1 _ _ f;go_wp2;refine aS (v:=.tuple #[.agg #[V z,Z ao C.length b],I J 0]) (by simp[results,results269,go_sem,u,y]) rfl ⟨z,C,ao,b,0,rfl,by rw[m];exact HE,?_,?_⟩
   . first
      | exact H.j (by omega)
      | (refine aL.f (S:=fun k=>k=w.heap.size) (aL.f (S:=fun k=>k=w.heap.size) (H.j (by omega)) (ak.j _ _ _ _ rfl) (fun a e e2=>?_)) (ak.j _ _ _ _ rfl) (fun a e e2=>?_) <;> (have:=(H.e a e).1;omega))
   . first | exact l | exact(l.setCell (am _) _).setCell (am _) _
theorem BN (s:ae)(w:X)(a:s.size<=100000):
 Calls prog 269 #[V s] w fun e w'=>tG w (ee s.data.toList) e w':=by
 cases b:dP s.data.toList
 . exact QS s w a b
 . exact M4 s w a b
def ny:ae:=⟨#[67,111,110,116,101,110,116,45,76,101,110,103,116,104]⟩
def jK (st:Int)(l:aC):Nat:=if gS st=[] then 11 else if 16<=l.length then 8 else if (aH ny l).length≠0 then 12 else 0
theorem M6 (w:X)(st:Int)(l:aC)(fo bo:ag)(fZ fV nb:Nat)(r:bx w fo fZ l.length (aJ l))(s:l.length<=1000000)(t:∀p∈l,p.1.size<=2000∧p.2.size<=2000):
 Calls prog 226 #[.agg #[I J st,Z fo l.length fZ,Z bo nb fV]] w fun e w'=>e=Y (I J (jK st l:Nat))∧Below w.heap.size w w':=by
 have u:∀W,jS w #[I J st,Z fo l.length fZ,Z bo nb fV] 126 W->W.cell? ⟨w.heap.size,0,U⟩=M (I J st)∧W.cell? ⟨w.heap.size,1,U⟩=M (Z fo l.length fZ)∧W.cell? ⟨w.heap.size,2,U⟩=M (Z bo nb fV):=fun W h=>⟨h.e 0,h.e 1,h.e 2⟩;have c:=jS.f w #[I J st,Z fo l.length fZ,Z bo nb fV] 126;have n:=vP l ny fo fZ l.length _ (r.a c.below) rfl s t (by decide);have g:=fun W=>Dc st W;have B:=u _ c;go_enter func226,ntmps226;go_wp2_with fail;refine(g _).mono ?_;rintro e C ⟨rfl,i⟩;subst i;by_cases a:gS st=[]
 . have b:Hid (jK st l=11):=by unfold Hid jK;rw[if_pos a]
   have v:((⟨(gS st).toArray⟩:ae).toList==([]:ab))=true:=by rw[Lib.toList_data,a];rfl
   generalize (⟨(gS st).toArray⟩:ae)=x at *;go_wp2;go_ret;exact⟨by rw[b.o];rfl,c.below⟩
 . have v:((⟨(gS st).toArray⟩:ae).toList==([]:ab))=F:=by rw[Lib.toList_data,aO];simpa using a
   have f:Hid (jK st l=if 16<=l.length then 8 else if (aH ny l).length≠0 then 12 else 0):=by unfold Hid jK;rw[if_neg a]
   generalize (⟨(gS st).toArray⟩:ae)=x at *;by_cases d:16<=l.length
   . have b:jK st l=8:=by rw[f.o,if_pos d]
     have j:decide ((l.length:Int)≥16)=true:=by rw[bN];omega
     go_wp2;go_ret;exact⟨by rw[b];rfl,c.below⟩
   . have j:decide ((l.length:Int)≥16)=F:=by rw[cz];omega
     rw[if_neg d] at f;unfold ny at n;go_wp2_with fail;refine n.mono ?_;rintro e D ⟨G,H,rfl,_,k⟩;have q:=c.a k;rw[show(⟨#[67,111,110,116,101,110,116,45,76,101,110,103,116,104]⟩:ae)=ny from rfl];generalize (aH ny l).length=m at *;by_cases y:0<m
     . have b:jK st l=12:=by rw[f.o,if_pos (by omega)]
       have z:decide ((m:Int) > 0)=true:=by rw[bN];omega
       go_wp2;go_ret;exact⟨by rw[b];rfl,q.below⟩
     . have b:jK st l=0:=by rw[f.o,if_neg (by omega)]
       have z:decide ((m:Int) > 0)=F:=by rw[cz];omega
       go_wp2;go_ret;exact⟨by rw[b];rfl,q.below⟩
theorem wa (word:ae)(l:aC)(a:ae)(ao:ag)(cap n:Nat)(w:X)(q:bx w ao cap n (aJ l))(s:l.length=n)(t:n<=1000000)(u:∀p∈l,p.2.size<=1000000):
 Calls prog 282 #[.agg #[V word,Z ao n cap],V a] w fun e w'=>e=Y (.tuple #[V ((iD a l).getD ⟨#[]⟩),.bool (iD a l).isSome])∧Below w.heap.size w w':=by
 subst s;have c:=tM.q w word ao l.length cap;have v:=yv l a ao cap l.length _ (q.a c.below) rfl t;go_enter func282,ntmps282;go_wp2_with fail;refine v.mono ?_;rintro e x ⟨r,rfl,y,z⟩;have b:=c.e z;rcases y with ⟨rfl,d⟩ | ⟨k,f,rfl,B,g⟩
 . have i:=aa (MO d);go_wp2;go_ret2;exact⟨by rw[i.o];rfl,b.below⟩
 . have i:=aa (Q0 f g B);have S:decide ((k:Int)<0)=F:=by rw[cz];omega
   obtain⟨C,D,rfl,j⟩:=(q.a b.below).f (by rw[sS];omega);have G:x.cell? ⟨C,D+k*2+1,U⟩=M (V l[k].2):=by
    have:=j _ _ (ow l k f).2;rwa[<-gE] at this
   have T:=b.f.2;have H:(k:Int)<l.length:=by omega
   have L:=fun W=>oZ l[k].2 W (u _ (eX f));generalize l[k]=p at *;go_wp2_with fail;refine(L _).mono ?_;rintro e w2 ⟨rfl,N⟩;have m:=b.e N;go_wp2;go_ret2;exact⟨by rw[i.o];rfl,m.below⟩
theorem zw (a:ae):∀b:aC,(iD a b).map (fun x=>x.data.toList)=ig a.data.toList (dx b):=by intro l;induction l <;> grind [iD,ig,dx]
theorem Ai {a:ae}{b:aC}{x:ae}(h:iD a b=M x):ig a.data.toList (dx b)=M x.data.toList∧∃p∈b,p.2=x:=by
 refine⟨by rw[<-zw,h];rfl,?_⟩;induction b with
 | nil=>cases h
 | cons p t c =>
   unfold iD at h;split at h
   . injection h with h;exact⟨p,lO ..,h⟩
   . obtain⟨q,d,e⟩:=c h;exact⟨q,iN _ d,e⟩
theorem AQ {a:ae}{b:aC}(h:iD a b=U):ig a.data.toList (dx b)=U:=by rw[<-zw,h];rfl
theorem G5 (b a:ae)(l:aC)(h:aY b.data.toList=a.data.toList)(c:aY a.data.toList=a.data.toList):iI (aH b l)=qv (ef (gU l) a.data.toList):=by
 rw[AX l a c,wB b a l (h.trans c.symm)];unfold iI qv;match aH a l with
 | []=>rfl
 | [v]=>rfl
 | _::_::_=>rfl
theorem rv {w W W':X}{a:Array Value}{t:Nat}(h:W.heap[w.heap.size]? = M (K a t (0,0)))(b:Below W.heap.size W W'):W'.heap[w.heap.size]? = M (K a t (0,0)):=(b.block _ (bM.1 h).1).trans h
theorem LP (word:ae)(b:aC)(ao:ag)(cap n:Nat)(w:X)(N:bx w ao cap n (aJ b))(S:b.length=n)(hN:n<=1000)(s:∀p∈b,p.2.size<=100000):
 Calls prog 382 #[.agg #[V word,Z ao n cap]] w fun e w'=>e=Y (pr (lu (dx b)))∧Below w.heap.size w w':=by
 have d:Below w.heap.size w (w.alloc (K #[V word,Z ao n cap] 244)):=(ar _ _).alloc (am _) _;have f:=wa word b ⟨#[102,105,108,101,110,97,109,101,42]⟩ ao cap n _ (N.a d) S (by omega) (fun p k=>by have:=s p k;omega);have i:∀W,Below (w.alloc (K #[V word,Z ao n cap] 244)).heap.size (w.alloc (K #[V word,Z ao n cap] 244)) W->Calls prog 282 #[.agg #[V word,Z ao n cap],V ⟨#[102,105,108,101,110,97,109,101]⟩] W fun e w'=>e=Y (.tuple #[V ((iD ⟨#[102,105,108,101,110,97,109,101]⟩ b).getD ⟨#[]⟩),.bool (iD ⟨#[102,105,108,101,110,97,109,101]⟩ b).isSome])∧Below W.heap.size W w':=fun W hW=>wa word b _ ao cap n W ((N.a d).a hW) S (by omega) (fun p k=>by have:=s p k;omega);have T:=be w (K #[V word,Z ao n cap] 244);cases t:iD ⟨#[102,105,108,101,110,97,109,101,42]⟩ b with
 | some x =>
   obtain⟨u,p,k,rfl⟩:=Ai t;have B:=s p k;rw[t] at f;have r:lu (dx b)=(ka p.2.data.toList).map oM:=by
    unfold lu;have:ig wH (dx b)=M p.2.data.toList:=u;rw[this]
   have v:=aa r;have j:=aa (fun W=>Oa p.2 W (by omega));cases C:ka p.2.data.toList with
   | none =>
     rw[C] at j v;go_enter func382,ntmps382;go_wp2_with fail;refine f.mono ?_;rintro e l ⟨rfl,a⟩;go_wp2_with fail;refine(j.o _).mono ?_;rintro e D ⟨rfl,c⟩;unfold pr;have m:=au (au d a) c;go_wp2;go_ret2;exact⟨by rw[v.o];rfl,m⟩
   | some y =>
     have hy:=Kn C;rw[cA] at hy;rw[C] at j v;go_enter func382,ntmps382;go_wp2_with fail;refine f.mono ?_;rintro e l ⟨rfl,a⟩;go_wp2_with fail;refine(j.o _).mono ?_;rintro e D ⟨rfl,c⟩;unfold pr;go_wp2_with fail;refine((fun W=>E6 ⟨y.toArray⟩ W (by show y.toArray.size<=_;rw[cx];omega)) _).mono ?_;rintro e w3 ⟨rfl,q⟩;have m:=au (au (au d a) c) q;go_wp2;go_ret2;exact⟨by rw[v.o];rfl,m⟩
 | none =>
   have u:=AQ t;rw[t] at f;cases z:iD ⟨#[102,105,108,101,110,97,109,101]⟩ b with
   | some x =>
     obtain⟨G,p,k,rfl⟩:=Ai z;have B:=s p k;rw[z] at i;have r:lu (dx b)=M (oM p.2.data.toList):=by
      unfold lu;have H:ig wH (dx b)=U:=u;have L:ig zz (dx b)=M p.2.data.toList:=G;rw[H,L]
     go_enter func382,ntmps382;go_wp2_with fail;refine f.mono ?_;rintro e l ⟨rfl,a⟩;have g:=rv T a;have c0:=aq l _ 0 _ _ _ g;have c1:=aq l _ 1 _ _ _ g;go_wp2_with fail;refine(i _ a).mono ?_;rintro e D ⟨rfl,c⟩;go_wp2_with fail;refine((fun W=>E6 p.2 W (by omega)) _).mono ?_;rintro e w3 ⟨rfl,q⟩;have m:=au (au (au d a) c) q;go_wp2;go_ret2;exact⟨by rw[r];rfl,m⟩
   | none =>
     have G:=AQ z;rw[z] at i;have r:lu (dx b)=M []:=by
      unfold lu;have H:ig wH (dx b)=U:=u;have L:ig zz (dx b)=U:=G;rw[H,L]
     go_enter func382,ntmps382;go_wp2_with fail;refine f.mono ?_;rintro e l ⟨rfl,a⟩;have g:=rv T a;have c0:=aq l _ 0 _ _ _ g;have c1:=aq l _ 1 _ _ _ g;go_wp2_with fail;refine(i _ a).mono ?_;rintro e D ⟨rfl,c⟩;have m:=au (au d a) c;go_wp2;go_ret2;exact⟨by rw[r];rfl,m⟩
def Th (m:Nat ⊕ List cU)(ps:aC)(code:Nat):Prop :=
 match m with
 | .inl c=>code=c∧c≠0
 | .inr x=>code=0∧dx ps=x
def Ia (w:X)(m:Nat ⊕ List cU)(e:Ending)(w':X):Prop :=
 ∃word ps ao cap,∃code:Nat,e=Y (.tuple #[.agg #[V word,Z ao ps.length cap],I J (code:Int)])∧Th m ps code∧aL w' w.heap.size 283 2 ao cap ps.length (aJ ps)∧Below w.heap.size w w'
theorem Ia.a {w w':X}{m:Nat ⊕ List cU}{c:Nat}(a:m=.inl c)(b:c≠0)(d:Below w.heap.size w w'):Ia w m (Y (.tuple #[.agg #[V ⟨#[]⟩,Z U 0 0],I J (c:Int)])) w':=by
 subst a;exact⟨⟨#[]⟩,[],U,0,c,rfl,⟨rfl,b⟩,aL.q _ _ _ _,d⟩
def nI:ae:=⟨#[67,111,110,116,101,110,116,45,68,105,115,112,111,115,105,116,105,111,110]⟩
def qY:ae:=⟨#[67,111,110,116,101,110,116,45,84,121,112,101]⟩
structure xK (w W:X):Prop where
 b:W.heap[w.heap.size]? = M (K #[V ⟨#[]⟩,Z U 0 0] 244 (0,0))
 below:Below w.heap.size w W
theorem xK.a {w W W':X}(h:xK w W)(a:Below W.heap.size W W'):xK w W':=⟨rv h.b a,au h.below a⟩
theorem xK.e {w W:X}(h:xK w W):W.cell? ⟨w.heap.size,0,U⟩=M (V ⟨#[]⟩)∧W.cell? ⟨w.heap.size,1,U⟩=M (Z U 0 0)∧W.frozen? ⟨w.heap.size,0,U⟩=F∧W.frozen? ⟨w.heap.size,1,U⟩=F :=
 ⟨aq W _ 0 _ _ _ h.b,aq W _ 1 _ _ _ h.b,aP W _ 0 _ _ h.b,aP W _ 1 _ _ h.b⟩
theorem Jj (l:aC)(ao:ag)(cap n:Nat)(w:X)(hl:bx w ao cap n (aJ l))(hn:l.length=n)(hN:n<=1000)(hz:∀p∈l,p.1.size<=2000∧p.2.size<=2000):
 Calls prog 381 #[Z ao n cap] w fun e w'=>Ia w (kB (iI (aH nI l))) e w':=by
 have t:xK w (w.alloc (K #[V ⟨#[]⟩,Z U 0 0] 244)):=⟨be w _,(ar _ _).alloc (am _) _⟩;have B:=vQ l nI ao cap n _ (hl.a ((ar _ _).alloc (am _) (K #[V ⟨#[]⟩,Z U 0 0] 244))) hn (by omega) hz (by decide);have hd2:(iI (aH nI l)).1.length<=2000:=by
  have s:∀v∈aH nI l,v.size<=2000:=fun v T=>by
   obtain⟨p,hp,rfl⟩:=wG T;exact(hz p hp).2
  unfold iI;split
  . exact ax _
  . rename_i v T;have:=s v (by rw[T];simp);rw[cA];exact this
  . exact ax _
 unfold lW at B;unfold nI at B;generalize hd:iI (aH nI l)=d at *;have hd':iI (aH ⟨#[67,111,110,116,101,110,116,45,68,105,115,112,111,115,105,116,105,111,110]⟩ l)=d:=hd;rw[hd'] at B;by_cases C:d.2=0
 . have t0:((d.2:Int) != 0)=F:=by rw[C];rfl
   have g:=fun W=>BN ⟨d.1.toArray⟩ W (by show d.1.toArray.size<=_;rw[cx];omega);have hdt:(⟨d.1.toArray⟩:ae).data.toList=d.1:=rfl;rw[hdt] at g;generalize (⟨d.1.toArray⟩:ae)=vt at *;cases s:ee d.1 with
   | inl c =>
     have hc:=Dw s;have D:=KD C s;rw[s] at g;have tc:((c:Int) != 0)=true:=by rw[dh];omega
     go_enter func381,ntmps381;go_wp2_with fail;refine B.mono ?_;rintro e G ⟨rfl,i⟩;have j:=t.a i;go_wp2_with fail;refine(g G).mono ?_;rintro e w2 ⟨word,z,u,b,code,rfl,⟨rfl,q,y⟩,r,m⟩;have f:=(j.a m).a ((ar _ _).alloc (am _) (K #[V word,Z u z.length b] 244));obtain⟨H,L,f0,f1⟩:=f.e;clear m  q y r;go_wp2;refine aS (v:=.tuple #[.agg #[V ⟨#[]⟩,Z U 0 0],I J (code:Int)]) (by simp[results,results381,go_sem,H,L]) rfl (Ia.a D hc ?_);first | exact f.below | exact(f.below.setCell (am _) _).setCell (am _) _
   | inr x =>
     by_cases S:x.1=qu
     . have D:=aa (KH C s S);rw[s] at g;clear s C;go_enter func381,ntmps381;go_wp2_with fail;refine B.mono ?_;rintro e G ⟨rfl,i⟩;have j:=t.a i;go_wp2_with fail;refine(g G).mono ?_;rintro e w2 ⟨word,z,u,b,code,rfl,⟨rfl,q,y⟩,r,m⟩;have f:=(j.a m).a ((ar _ _).alloc (am _) (K #[V word,Z u z.length b] 244));obtain⟨H,L,f0,f1⟩:=f.e;have tw:(word.toList==[102,111,114,109,45,100,97,116,97])=true:=by
        rw[cJ,Lib.toList_data,q,S];rfl
       have hz1:=j.below.size;have hgt:=(bM.1 j.b).1;have sW:=(r.j (show w.heap.size<=G.heap.size from hz1)).r ((ar _ _).alloc (am _) (K #[V word,Z u z.length b] 244));have N:∀a,u=M a->a.block≠w.heap.size:=fun a e=>by have:=(r.e a e).1;omega
       go_wp2;refine aS (v:=.tuple #[.agg #[V word,Z u z.length b],I J 0]) (by simp[results,results381,go_sem,H,L]) rfl ⟨word,z,u,b,0,rfl,?_,?_,?_⟩
       . rw[D];exact⟨rfl,y⟩
       . exact((sW.f (ak.j (fun k=>k=w.heap.size) _ _ _ rfl) (fun a e=>N a e)).f (ak.j (fun k=>k=w.heap.size) _ _ _ rfl) (fun a e=>N a e))
       . exact(f.below.setCell (am _) _).setCell (am _) _
     . have D:=aa (Kh C s S);rw[s] at g;go_enter func381,ntmps381;go_wp2_with fail;refine B.mono ?_;rintro e G ⟨rfl,i⟩;have j:=t.a i;go_wp2_with fail;refine(g G).mono ?_;rintro e w2 ⟨word,z,u,b,code,rfl,⟨rfl,q,y⟩,r,m⟩;have f:=(j.a m).a ((ar _ _).alloc (am _) (K #[V word,Z u z.length b] 244));obtain⟨H,L,f0,f1⟩:=f.e;have tw:(word.toList==[102,111,114,109,45,100,97,116,97])=F:=by
        rw[aO,Lib.toList_data,q];exact S
       go_wp2;refine aS (v:=.tuple #[.agg #[V ⟨#[]⟩,Z U 0 0],I J 11]) (by simp[results,results381,go_sem,H,L]) rfl (Ia.a (c:=11) D (by decide) ?_);first | exact f.below | exact(f.below.setCell (am _) _).setCell (am _) _
 . have t0:((d.2:Int) != 0)=true:=by rw[dh];omega
   have D:Hid (kB d=.inl d.2):=by unfold Hid kB;rw[if_pos C]
   go_enter func381,ntmps381;go_wp2_with fail;refine B.mono ?_;rintro e G ⟨rfl,i⟩;have uW:=t.a i;obtain⟨H,L,f0,f1⟩:=uW.e;go_wp2;refine aS (v:=.tuple #[.agg #[V ⟨#[]⟩,Z U 0 0],I J (d.2:Int)]) (by simp[results,results381,go_sem,H,L]) rfl (Ia.a D.o C ?_);first | exact uW.below | exact(uW.below.setCell (am _) _).setCell (am _) _
def ub:Nat ⊕ oL->Value
 | .inl c=>.tuple #[.agg #[V ⟨#[]⟩,V ⟨#[]⟩,V ⟨#[]⟩,Z U 0 0],I J (c:Int)]
 | .inr p=>.tuple #[.agg #[V ⟨p.b.toArray⟩,V ⟨p.a.toArray⟩,V ⟨p.c.toArray⟩,Z U 0 0],I J 0]
structure xL (w W:X):Prop where
 b:W.heap[w.heap.size]? = M (K #[V ⟨#[]⟩,V ⟨#[]⟩,V ⟨#[]⟩,Z U 0 0] 96 (0,0))
 below:Below w.heap.size w W
theorem xL.a {w W W':X}(h:xL w W)(a:Below W.heap.size W W'):xL w W':=⟨rv h.b a,au h.below a⟩
theorem xL.e {w W:X}(h:xL w W):W.cell? ⟨w.heap.size,0,U⟩=M (V ⟨#[]⟩)∧W.cell? ⟨w.heap.size,1,U⟩=M (V ⟨#[]⟩)∧W.cell? ⟨w.heap.size,2,U⟩=M (V ⟨#[]⟩)∧W.cell? ⟨w.heap.size,3,U⟩=M (Z U 0 0)∧W.frozen? ⟨w.heap.size,0,U⟩=F∧W.frozen? ⟨w.heap.size,1,U⟩=F∧W.frozen? ⟨w.heap.size,2,U⟩=F∧W.frozen? ⟨w.heap.size,3,U⟩=F :=
 ⟨aq W _ 0 _ _ _ h.b,aq W _ 1 _ _ _ h.b,aq W _ 2 _ _ _ h.b,aq W _ 3 _ _ _ h.b,aP W _ 0 _ _ h.b,aP W _ 1 _ _ h.b,aP W _ 2 _ _ h.b,aP W _ 3 _ _ h.b⟩
theorem tX {w W:X}(h:Below w.heap.size w W)(a b c d:Value):Below w.heap.size w ((((W.setCell ⟨w.heap.size,0,U⟩ a).setCell ⟨w.heap.size,1,U⟩ b).setCell ⟨w.heap.size,2,U⟩ c).setCell ⟨w.heap.size,3,U⟩ d) :=
 (((h.setCell (am _) _).setCell (am _) _).setCell (am _) _).setCell (am _) _
theorem S3 (l:aC)(ao:ag)(cap n:Nat)(w:X)(hl:bx w ao cap n (aJ l))(hn:l.length=n)(hN:n<=1000)(hz:∀p∈l,p.1.size<=2000∧p.2.size<=2000):
 Calls prog 379 #[Z ao n cap] w fun e w'=>e=Y (ub (mS (iI (aH nI l)) (iI (aH qY l))))∧Below w.heap.size w w':=by
 have hR0:xL w (w.alloc (K #[V ⟨#[]⟩,V ⟨#[]⟩,V ⟨#[]⟩,Z U 0 0] 96)):=⟨be w _,(ar _ _).alloc (am _) _⟩;have HL:∀W,Below w.heap.size w W->bx W ao cap n (aJ l):=fun W hW=>hl.a hW;have HD:=Jj l ao cap n _ (HL _ hR0.below) hn hN hz;have z:∀W,Below w.heap.size w W->Calls prog 206 #[Z ao n cap,V qY] W fun e w'=>e=Y (lW (iI (aH qY l)))∧Below W.heap.size W w':=fun W hW=>vQ l qY ao cap n W (HL W hW) hn (by omega) hz (by decide);have hd2:(iI (aH nI l)).1.length<=2000:=by
  have hm:∀v∈aH nI l,v.size<=2000:=fun v hv=>by
   obtain⟨p,hp,rfl⟩:=wG hv;exact(hz p hp).2
  unfold iI;split
  . exact ax _
  . rename_i v hv;have:=hm v (by rw[hv];simp);rw[cA];exact this
  . exact ax _
 unfold lW at z;generalize iI (aH nI l)=d at *;generalize iI (aH qY l)=t at *;have hP:=JL d t;unfold qY at z;cases hdi:kB d with
 | inl c =>
   rw[hdi] at HD hP;have HP:mS d t=.inl c:=hP;go_enter func379,ntmps379;go_wp2_with fail;refine HD.mono ?_;rintro e B ⟨word,r,s,a,code,rfl,⟨rfl,hc⟩,tq,hb1⟩;have tc:((code:Int) != 0)=true:=by rw[dh];omega
   have C:=(hR0.a hb1).a ((ar _ _).alloc (am _) (K #[V word,Z s r.length a] 244));obtain⟨D,G,H,L,f0,f1,f2,f3⟩:=C.e;go_wp2;refine aS (v:=.tuple #[.agg #[V ⟨#[]⟩,V ⟨#[]⟩,V ⟨#[]⟩,Z U 0 0],I J (code:Int)]) (by simp[results,results379,go_sem,D,G,H,L]) rfl ⟨by rw[HP];rfl,?_⟩;first | exact C.below | exact tX C.below _ _ _ _
 | inr xs =>
   have mF:=KE hdi;rw[hdi] at HD hP;have hP:=hP;go_enter func379,ntmps379;go_wp2_with fail;refine HD.mono ?_;rintro e B ⟨word,r,s,a,code,rfl,⟨rfl,hps⟩,tq,hb1⟩;subst hps;obtain⟨m,u⟩:∃m,r.length=m:=⟨_,rfl⟩;rw[u] at tq;rw[u];have hn8:m<=8:=by rw[<-u,<-yk];exact mF.1
   have hvz:∀p∈r,p.2.size<=2000:=fun p hp=>by
    have:=mF.2 (p.1.data.toList,p.2.data.toList) (oh.2 ⟨p,hp,rfl⟩);have h2:=this;rw[cA] at h2;omega
   have hbM:Below B.heap.size B (B.alloc (K #[V word,Z s m a] 244)):=(ar _ _).alloc (am _) _;have C:=(hR0.a hb1).a hbM;have hM1:=be B (K #[V word,Z s m a] 244);have hV1:=tq.a.a hbM;have Wj:=wa word r ⟨#[110,97,109,101]⟩ s a m _ hV1 u (by omega) (fun p hp=>by have:=hvz p hp;omega);have Kk:∀W,Below (B.alloc (K #[V word,Z s m a] 244)).heap.size (B.alloc (K #[V word,Z s m a] 244)) W->Calls prog 382 #[.agg #[V word,Z s m a]] W fun e w'=>e=Y (pr (lu (dx r)))∧Below W.heap.size W w':=fun W hW=>LP word r s a m W (hV1.a hW) u (by omega) (fun p hp=>by have:=hvz p hp;omega);have HR1:=C;have YL:=aa hM1;have HP:=aa hP;have HVz:=aa hvz
   generalize hW1:(B.alloc (K #[V word,Z s m a] 244))=W1 at *;have m0:=aq W1 _ 0 _ _ _ YL.o;have m1:W1.cell? ⟨B.heap.size,1,U⟩=M (Z s m a):=aq W1 _ 1 _ _ _ YL.o;cases N:iD ⟨#[110,97,109,101]⟩ r with
   | none =>
     have g1:ig wI (dx r)=U:=AQ N;rw[N] at Wj;have i:mS d t=.inl 6:=by rw[HP];unfold ue;rw[g1]
     go_wp2_with fail;refine Wj.mono ?_;rintro e q ⟨rfl,b⟩;have hR3:=C.a b;obtain⟨D,G,H,L,f0,f1,f2,f3⟩:=hR3.e;go_wp2;refine aS (v:=.tuple #[.agg #[V ⟨#[]⟩,V ⟨#[]⟩,V ⟨#[]⟩,Z U 0 0],I J 6]) (by simp[results,results379,go_sem,D,G,H,L]) rfl ⟨by rw[i];rfl,?_⟩;first | exact hR3.below | exact tX hR3.below _ _ _ _
   | some x =>
     obtain⟨g1,_⟩:=Ai N;have g1:ig wI (dx r)=M x.data.toList:=g1;rw[N] at Wj;cases S:lu (dx r) with
     | none =>
       rw[S] at Kk;have i:mS d t=.inl 5:=by rw[HP];unfold ue;rw[g1,S]
       go_wp2_with fail;refine Wj.mono ?_;rintro e q ⟨rfl,b⟩;have T:=rv YL.o b;have n0:=aq q _ 0 _ _ _ T;have n1:=aq q _ 1 _ _ _ T;go_wp2_with fail;refine(Kk q b).mono ?_;rintro e w4 ⟨rfl,j⟩;unfold pr;have hR4:=(C.a b).a j;obtain⟨D,G,H,L,f0,f1,f2,f3⟩:=hR4.e;have g:=aa hR4;go_wp2;refine aS (v:=.tuple #[.agg #[V ⟨#[]⟩,V ⟨#[]⟩,V ⟨#[]⟩,Z U 0 0],I J 5]) (by simp[results,results379,go_sem,D,G,H,L]) rfl ⟨by rw[i];rfl,?_⟩;first | exact g.o.below | exact tX g.o.below _ _ _ _
     | some f =>
       rw[S] at Kk;have y:mS d t=if t.2=9 then .inl 9 else .inr ⟨x.data.toList,f,t.1⟩:=by rw[HP];unfold ue;rw[g1,S]
       by_cases h9:t.2=9
       . rw[if_pos h9] at y;have i:=aa y;have t9:((t.2:Int)==9)=true:=by rw[h9];rfl
         have HT9:=aa h9;clear y h9;go_wp2_with fail;refine Wj.mono ?_;rintro e q ⟨rfl,b⟩;have T:=rv YL.o b;have n0:=aq q _ 0 _ _ _ T;have n1:=aq q _ 1 _ _ _ T;clear  T m0 m1 hW1;go_wp2_with fail;refine(Kk q b).mono ?_;rintro e w4 ⟨rfl,j⟩;unfold pr;have g:=(C.a b).a j;clear j n0 n1;go_wp2_with fail;refine(z w4 g.below).mono ?_;rintro e w5 ⟨rfl,hb5⟩;have k:=g.a hb5;obtain⟨D,G,H,L,f0,f1,f2,f3⟩:=k.e;go_wp2;refine aS (v:=.tuple #[.agg #[V ⟨#[]⟩,V ⟨#[]⟩,V ⟨#[]⟩,Z U 0 0],I J (t.2:Int)]) (by simp[results,results379,go_sem,D,G,H,L]) rfl ⟨by rw[i,HT9.o];rfl,?_⟩;first | exact k.below | exact tX k.below _ _ _ _
       . rw[if_neg h9] at y;have i:=aa y;have t9:((t.2:Int)==9)=F:=by rw[aO];omega
         go_wp2_with fail;refine Wj.mono ?_;rintro e q ⟨rfl,b⟩;have T:=rv YL.o b;have n0:=aq q _ 0 _ _ _ T;have n1:=aq q _ 1 _ _ _ T;go_wp2_with fail;refine(Kk q b).mono ?_;rintro e w4 ⟨rfl,j⟩;unfold pr;have g:=(C.a b).a j;go_wp2_with fail;refine(z w4 g.below).mono ?_;rintro e w5 ⟨rfl,hb5⟩;have k:=g.a hb5;obtain⟨D,G,H,L,f0,f1,f2,f3⟩:=k.e;go_wp2;refine aS (v:=.tuple #[.agg #[V x,V ⟨f.toArray⟩,V ⟨t.1.toArray⟩,Z U 0 0],I J 0]) (by simp[results,results379,go_sem,D,G,H,L]) rfl ⟨by rw[i];unfold ub;simp only[],?_⟩;exact tX k.below _ _ _ _
theorem R9 (l:aC)(ao:ag)(cap n:Nat)(w:X)(a:bx w ao cap n (aJ l))(b:l.length=n)(c:n<=1000)(d:∀p∈l,p.1.size<=2000∧p.2.size<=2000):
 Calls prog 379 #[Z ao n cap] w fun e w'=>e=Y (ub (kF (gU l)))∧Below w.heap.size w w':=by
 have h:=S3 l ao cap n w a b c d;rw[G5 nI ⟨zA.toArray⟩ l (by decide) (by decide),G5 qY ⟨zE.toArray⟩ l (by decide) (by decide)] at h;exact h
