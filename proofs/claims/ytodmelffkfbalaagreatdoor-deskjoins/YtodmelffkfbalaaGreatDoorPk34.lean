import Derived.Test.YtodmelffkfbalaaGreatDoorPk27
import Derived.Test.YtodmelffkfbalaaGreatDoorPk32
import Derived.Test.YtodmelffkfbalaaGreatDoorPk20
import Derived.Test.YtodmelffkfbalaaGreatDoorPk23
open Go.Value renaming int->I,string->V,slice->Z
open Go.IntKind renaming i64->J
open Go.Obj renaming cells->K
open Go.Ending renaming returned->Y
open Option renaming none->U,some->M
open Bool renaming false->F
open Go renaming World->X
set_option maxHeartbeats 4000000
set_option maxRecDepth 100000
open Go.Proofs.Tryz
namespace Go.Proofs.YtodmelffkfbalaaGreatDoor
open Go.RowKit
theorem QL (s:ae)(w:X)(k:s.size<=100000)(a:dO s.data.toList=F):
 Calls prog 269 #[V s] w fun e w'=>tA w (dY s.data.toList) e w':=by
 have f:Hid (dY s.data.toList=.inl 3):=by unfold Hid dY;rw[if_pos a]
 have b:=rf s (w.alloc (K #[V ⟨#[]⟩,Z U 0 0] 244)) (by unfold maxLen;omega);rw[a] at b;have d:Below w.heap.size w (w.alloc (K #[V ⟨#[]⟩,Z U 0 0] 244)):=(ar _ _).alloc (ak _) _;have g:(w.alloc (K #[V ⟨#[]⟩,Z U 0 0] 244)).cell? ⟨w.heap.size,0,U⟩=M (V ⟨#[]⟩):=World.cell?_alloc_mark w _ _ _ 0;have i:(w.alloc (K #[V ⟨#[]⟩,Z U 0 0] 244)).cell? ⟨w.heap.size,1,U⟩=M (Z U 0 0):=World.cell?_alloc_mark w _ _ _ 1;go_enter func269,ntmps269;go_wp2_with fail;refine b.mono ?_;rintro e l ⟨rfl,j⟩;subst j;go_wp2;refine aR (v:=.tuple #[.agg #[V ⟨#[]⟩,Z U 0 0],I J 3]) (by simp[results,results269,go_sem,g,i]) rfl (tA.a (c:=3) f.o ?_);first | exact d | exact(d.setCell (aM _) _).setCell (aM _) _
theorem MP (s:ae)(w:X)(L:s.size<=100000)(N:dO s.data.toList=true):
 Calls prog 269 #[V s] w fun e w'=>tA w (dY s.data.toList) e w':=by
 have m:=Ny s.data.toList N;have p:=rf s (w.alloc (K #[V ⟨#[]⟩,Z U 0 0] 244)) (by unfold maxLen;omega);rw[N] at p;have Rs:∀(T:Fn) (first b:Array Value) (w:X),(Instr.makeFunc T first b).run prog w=.ok (.func T first b) w:=fun _ _ _ _=>rfl;have q:Below w.heap.size w (w.alloc (K #[V ⟨#[]⟩,Z U 0 0] 244)):=(ar _ _).alloc (ak _) _;have r1:(w.alloc (K #[V ⟨#[]⟩,Z U 0 0] 244)).heap[w.heap.size]? = M (K #[V ⟨#[]⟩,Z U 0 0] 244 (0,0)):=aX w _;have g:Below (w.heap.size+1) (w.alloc (K #[V ⟨#[]⟩,Z U 0 0] 244)) ((w.alloc (K #[V ⟨#[]⟩,Z U 0 0] 244)).alloc (K #[V s,I J 0] 338)):=(ar _ _).alloc (by simp) _;have hz:(w.alloc (K #[V ⟨#[]⟩,Z U 0 0] 244)).heap.size=w.heap.size+1:=by simp
 have i:bC ((w.alloc (K #[V ⟨#[]⟩,Z U 0 0] 244)).alloc (K #[V s,I J 0] 338)) (w.heap.size+1) s 0:=by
  have:=aX (w.alloc (K #[V ⟨#[]⟩,Z U 0 0] 244)) (K #[V s,I J 0] 338);rw[hz] at this;exact this
 have j:=(g.block _ (by omega)).trans r1;have W:Below w.heap.size w ((w.alloc (K #[V ⟨#[]⟩,Z U 0 0] 244)).alloc (K #[V s,I J 0] 338)):=q.trans (g.mono (by omega));have r:((w.alloc (K #[V ⟨#[]⟩,Z U 0 0] 244)).alloc (K #[V s,I J 0] 338)).heap.size=w.heap.size+2:=by simp
 cases n:mV s.data.toList 0 with
 | inl c =>
   rw[n] at m;go_enter func269,ntmps269;go_wp2_with fail;refine p.mono ?_;rintro e w1 ⟨rfl,t⟩;subst t;go_wp2_with fail;refine(PJ s (w.heap.size+1) w.heap.size _ i L c n).mono ?_;rintro e d ⟨rfl,o⟩;have f:=o.y j (fun e=>by unfold bD at e;omega);have l:=W.trans (o.below (B:=w.heap.size) (fun k e=>by unfold bD at e;omega) (by simp;omega));have u:=aq d _ 0 _ _ _ f;have y:=aq d _ 1 _ _ _ f;have f0:=aN d _ 0 _ _ f;have f1:=aN d _ 1 _ _ f;go_wp2;refine aR (v:=.tuple #[.agg #[V ⟨#[]⟩,Z U 0 0],I J (c:Int)]) (by simp[results,results269,go_sem,u,y]) rfl (tA.a (c:=c) m ?_);first | exact l | exact(l.setCell (ak _) _).setCell (ak _) _
 | inr x =>
   rw[n] at m;have HC:=MM s (w.heap.size+1) w.heap.size _ i j L x n;rw[r] at HC;go_enter func269,ntmps269;go_wp2_with fail;refine p.mono ?_;rintro e w1 ⟨rfl,t⟩;subst t;go_wp2_with fail;refine HC.mono ?_;rintro e d ⟨rfl,⟨z,C,ao,b,hd,D,G,H⟩,o⟩;have f:=aa hd;have l:=W.trans (o.below (B:=w.heap.size) (fun k e=>by unfold pM at e;omega) (by simp;omega));have HE:Bp (.inr x) z C 0:=⟨rfl,D,G⟩;have u:=aq d _ 0 _ _ _ f;have y:=aq d _ 1 _ _ _ f;have f0:=aN d _ 0 _ _ f;have f1:=aN d _ 1 _ _ f;go_wp2;refine aR (v:=.tuple #[.agg #[V z,Z ao C.length b],I J 0]) (by simp[results,results269,go_sem,u,y]) rfl ⟨z,C,ao,b,0,rfl,by rw[m];exact HE,?_,?_⟩
   . first
      | exact H.r (by omega)
      | (refine aK.j (S:=fun k=>k=w.heap.size) (aK.j (S:=fun k=>k=w.heap.size) (H.r (by omega)) (am.r _ _ _ _ rfl) (fun a e e2=>?_)) (am.r _ _ _ _ rfl) (fun a e e2=>?_) <;> (have:=(H.f a e).1;omega))
   . first | exact l | exact(l.setCell (ak _) _).setCell (ak _) _
theorem BN (s:ae)(w:X)(a:s.size<=100000):
 Calls prog 269 #[V s] w fun e w'=>tA w (dY s.data.toList) e w':=by
 cases b:dO s.data.toList
 . exact QL s w a b
 . exact MP s w a b
def nu:ae:=⟨#[67,111,110,116,101,110,116,45,76,101,110,103,116,104]⟩
def jH (st:Int)(l:aC):Nat:=if gS st=[] then 11 else if 16<=l.length then 8 else if (aG nu l).length≠0 then 12 else 0
theorem MS (w:X)(st:Int)(l:aC)(fo bo:ag)(gy fZ nb:Nat)(r:bq w fo gy l.length (aI l))(s:l.length<=1000000)(t:∀p∈l,p.1.size<=2000∧p.2.size<=2000):
 Calls prog 226 #[.agg #[I J st,Z fo l.length gy,Z bo nb fZ]] w fun e w'=>e=Y (I J (jH st l:Nat))∧Below w.heap.size w w':=by
 have u:∀W,jO w #[I J st,Z fo l.length gy,Z bo nb fZ] 126 W->W.cell? ⟨w.heap.size,0,U⟩=M (I J st)∧W.cell? ⟨w.heap.size,1,U⟩=M (Z fo l.length gy)∧W.cell? ⟨w.heap.size,2,U⟩=M (Z bo nb fZ):=fun W h=>⟨h.f 0,h.f 1,h.f 2⟩;have c:=jO.j w #[I J st,Z fo l.length gy,Z bo nb fZ] 126;have n:=vN l nu fo gy l.length _ (r.a c.below) rfl s t (by decide);have g:=fun W=>CW st W;have B:=u _ c;go_enter func226,ntmps226;go_wp2_with fail;refine(g _).mono ?_;rintro e C ⟨rfl,i⟩;subst i;by_cases a:gS st=[]
 . have b:Hid (jH st l=11):=by unfold Hid jH;rw[if_pos a]
   have v:((⟨(gS st).toArray⟩:ae).toList==([]:ab))=true:=by rw[Lib.toList_data,a];rfl
   generalize (⟨(gS st).toArray⟩:ae)=x at *;go_wp2;go_ret;exact⟨by rw[b.o];rfl,c.below⟩
 . have v:((⟨(gS st).toArray⟩:ae).toList==([]:ab))=F:=by rw[Lib.toList_data,aQ];simpa using a
   have f:Hid (jH st l=if 16<=l.length then 8 else if (aG nu l).length≠0 then 12 else 0):=by unfold Hid jH;rw[if_neg a]
   generalize (⟨(gS st).toArray⟩:ae)=x at *;by_cases d:16<=l.length
   . have b:jH st l=8:=by rw[f.o,if_pos d]
     have j:decide ((l.length:Int)≥16)=true:=by rw[bR];omega
     go_wp2;go_ret;exact⟨by rw[b];rfl,c.below⟩
   . have j:decide ((l.length:Int)≥16)=F:=by rw[cC];omega
     rw[if_neg d] at f;unfold nu at n;go_wp2_with fail;refine n.mono ?_;rintro e D ⟨G,H,rfl,_,k⟩;have q:=c.a k;rw[show(⟨#[67,111,110,116,101,110,116,45,76,101,110,103,116,104]⟩:ae)=nu from rfl];generalize (aG nu l).length=m at *;by_cases y:0<m
     . have b:jH st l=12:=by rw[f.o,if_pos (by omega)]
       have z:decide ((m:Int) > 0)=true:=by rw[bR];omega
       go_wp2;go_ret;exact⟨by rw[b];rfl,q.below⟩
     . have b:jH st l=0:=by rw[f.o,if_neg (by omega)]
       have z:decide ((m:Int) > 0)=F:=by rw[cC];omega
       go_wp2;go_ret;exact⟨by rw[b];rfl,q.below⟩
theorem yA (word:ae)(l:aC)(a:ae)(ao:ag)(cap n:Nat)(w:X)(q:bq w ao cap n (aI l))(s:l.length=n)(t:n<=1000000)(u:∀p∈l,p.2.size<=1000000):
 Calls prog 282 #[.agg #[V word,Z ao n cap],V a] w fun e w'=>e=Y (.tuple #[V ((iB a l).getD ⟨#[]⟩),.bool (iB a l).isSome])∧Below w.heap.size w w':=by
 subst s;have c:=tK.y w word ao l.length cap;have v:=ys l a ao cap l.length _ (q.a c.below) rfl t;go_enter func282,ntmps282;go_wp2_with fail;refine v.mono ?_;rintro e x ⟨r,rfl,y,z⟩;have b:=c.f z;rcases y with ⟨rfl,d⟩ | ⟨k,f,rfl,B,g⟩
 . have i:=aa (Mx d);go_wp2;go_ret2;exact⟨by rw[i.o];rfl,b.below⟩
 . have i:=aa (QT f g B);have S:decide ((k:Int)<0)=F:=by rw[cC];omega
   obtain⟨C,D,rfl,j⟩:=(q.a b.below).f (by rw[sO];omega);have G:x.cell? ⟨C,D+k*2+1,U⟩=M (V l[k].2):=by
    have:=j _ _ (om l k f).2;rwa[<-gE] at this
   have T:=b.j.2;have H:(k:Int)<l.length:=by omega
   have L:=fun W=>oS l[k].2 W (u _ (fb f));generalize l[k]=p at *;go_wp2_with fail;refine(L _).mono ?_;rintro e w2 ⟨rfl,N⟩;have m:=b.f N;go_wp2;go_ret2;exact⟨by rw[i.o];rfl,m.below⟩
theorem zw (a:ae):∀b:aC,(iB a b).map (fun x=>x.data.toList)=ib a.data.toList (dy b):=by intro l;induction l <;> grind [iB,ib,dy]
theorem Ak {a:ae}{b:aC}{x:ae}(h:iB a b=M x):ib a.data.toList (dy b)=M x.data.toList∧∃p∈b,p.2=x:=by
 refine⟨by rw[<-zw,h];rfl,?_⟩;induction b with
 | nil=>cases h
 | cons p t c =>
   unfold iB at h;split at h
   . injection h with h;exact⟨p,lM ..,h⟩
   . obtain⟨q,d,e⟩:=c h;exact⟨q,iw _ d,e⟩
theorem AT {a:ae}{b:aC}(h:iB a b=U):ib a.data.toList (dy b)=U:=by rw[<-zw,h];rfl
theorem GY (b a:ae)(l:aC)(h:be b.data.toList=a.data.toList)(c:be a.data.toList=a.data.toList):iH (aG b l)=qt (dZ (gU l) a.data.toList):=by
 rw[A1 l a c,wJ b a l (h.trans c.symm)];unfold iH qt;match aG a l with
 | []=>rfl
 | [v]=>rfl
 | _::_::_=>rfl
theorem rl {w W W':X}{a:Array Value}{t:Nat}(h:W.heap[w.heap.size]? = M (K a t (0,0)))(b:Below W.heap.size W W'):W'.heap[w.heap.size]? = M (K a t (0,0)):=(b.block _ (bO.1 h).1).trans h
theorem Lz (word:ae)(b:aC)(ao:ag)(cap n:Nat)(w:X)(N:bq w ao cap n (aI b))(S:b.length=n)(hN:n<=1000)(s:∀p∈b,p.2.size<=100000):
 Calls prog 382 #[.agg #[V word,Z ao n cap]] w fun e w'=>e=Y (pg (lu (dy b)))∧Below w.heap.size w w':=by
 have d:Below w.heap.size w (w.alloc (K #[V word,Z ao n cap] 244)):=(ar _ _).alloc (ak _) _;have f:=yA word b ⟨#[102,105,108,101,110,97,109,101,42]⟩ ao cap n _ (N.a d) S (by omega) (fun p k=>by have:=s p k;omega);have i:∀W,Below (w.alloc (K #[V word,Z ao n cap] 244)).heap.size (w.alloc (K #[V word,Z ao n cap] 244)) W->Calls prog 282 #[.agg #[V word,Z ao n cap],V ⟨#[102,105,108,101,110,97,109,101]⟩] W fun e w'=>e=Y (.tuple #[V ((iB ⟨#[102,105,108,101,110,97,109,101]⟩ b).getD ⟨#[]⟩),.bool (iB ⟨#[102,105,108,101,110,97,109,101]⟩ b).isSome])∧Below W.heap.size W w':=fun W hW=>yA word b _ ao cap n W ((N.a d).a hW) S (by omega) (fun p k=>by have:=s p k;omega);have T:=aX w (K #[V word,Z ao n cap] 244);cases t:iB ⟨#[102,105,108,101,110,97,109,101,42]⟩ b with
 | some x =>
   obtain⟨u,p,k,rfl⟩:=Ak t;have B:=s p k;rw[t] at f;have r:lu (dy b)=(jW p.2.data.toList).map oB:=by
    unfold lu;have:ib wM (dy b)=M p.2.data.toList:=u;rw[this]
   have v:=aa r;have j:=aa (fun W=>N2 p.2 W (by omega));cases C:jW p.2.data.toList with
   | none =>
     rw[C] at j v;go_enter func382,ntmps382;go_wp2_with fail;refine f.mono ?_;rintro e l ⟨rfl,a⟩;go_wp2_with fail;refine(j.o _).mono ?_;rintro e D ⟨rfl,c⟩;unfold pg;have m:=au (au d a) c;go_wp2;go_ret2;exact⟨by rw[v.o];rfl,m⟩
   | some y =>
     have hy:=J4 C;rw[cH] at hy;rw[C] at j v;go_enter func382,ntmps382;go_wp2_with fail;refine f.mono ?_;rintro e l ⟨rfl,a⟩;go_wp2_with fail;refine(j.o _).mono ?_;rintro e D ⟨rfl,c⟩;unfold pg;go_wp2_with fail;refine((fun W=>E1 ⟨y.toArray⟩ W (by show y.toArray.size<=_;rw[cz];omega)) _).mono ?_;rintro e w3 ⟨rfl,q⟩;have m:=au (au (au d a) c) q;go_wp2;go_ret2;exact⟨by rw[v.o];rfl,m⟩
 | none =>
   have u:=AT t;rw[t] at f;cases z:iB ⟨#[102,105,108,101,110,97,109,101]⟩ b with
   | some x =>
     obtain⟨G,p,k,rfl⟩:=Ak z;have B:=s p k;rw[z] at i;have r:lu (dy b)=M (oB p.2.data.toList):=by
      unfold lu;have H:ib wM (dy b)=U:=u;have L:ib zC (dy b)=M p.2.data.toList:=G;rw[H,L]
     go_enter func382,ntmps382;go_wp2_with fail;refine f.mono ?_;rintro e l ⟨rfl,a⟩;have g:=rl T a;have c0:=aq l _ 0 _ _ _ g;have c1:=aq l _ 1 _ _ _ g;go_wp2_with fail;refine(i _ a).mono ?_;rintro e D ⟨rfl,c⟩;go_wp2_with fail;refine((fun W=>E1 p.2 W (by omega)) _).mono ?_;rintro e w3 ⟨rfl,q⟩;have m:=au (au (au d a) c) q;go_wp2;go_ret2;exact⟨by rw[r];rfl,m⟩
   | none =>
     have G:=AT z;rw[z] at i;have r:lu (dy b)=M []:=by
      unfold lu;have H:ib wM (dy b)=U:=u;have L:ib zC (dy b)=U:=G;rw[H,L]
     go_enter func382,ntmps382;go_wp2_with fail;refine f.mono ?_;rintro e l ⟨rfl,a⟩;have g:=rl T a;have c0:=aq l _ 0 _ _ _ g;have c1:=aq l _ 1 _ _ _ g;go_wp2_with fail;refine(i _ a).mono ?_;rintro e D ⟨rfl,c⟩;have m:=au (au d a) c;go_wp2;go_ret2;exact⟨by rw[r];rfl,m⟩
def Tn (m:Nat ⊕ List cW)(ps:aC)(code:Nat):Prop :=
 match m with
 | .inl c=>code=c∧c≠0
 | .inr x=>code=0∧dy ps=x
def Hu (w:X)(m:Nat ⊕ List cW)(e:Ending)(w':X):Prop :=
 ∃word ps ao cap,∃code:Nat,e=Y (.tuple #[.agg #[V word,Z ao ps.length cap],I J (code:Int)])∧Tn m ps code∧aK w' w.heap.size 283 2 ao cap ps.length (aI ps)∧Below w.heap.size w w'
theorem Hu.a {w w':X}{m:Nat ⊕ List cW}{c:Nat}(a:m=.inl c)(b:c≠0)(d:Below w.heap.size w w'):Hu w m (Y (.tuple #[.agg #[V ⟨#[]⟩,Z U 0 0],I J (c:Int)])) w':=by
 subst a;exact⟨⟨#[]⟩,[],U,0,c,rfl,⟨rfl,b⟩,aK.y _ _ _ _,d⟩
def nC:ae:=⟨#[67,111,110,116,101,110,116,45,68,105,115,112,111,115,105,116,105,111,110]⟩
def qV:ae:=⟨#[67,111,110,116,101,110,116,45,84,121,112,101]⟩
structure xL (w W:X):Prop where
 b:W.heap[w.heap.size]? = M (K #[V ⟨#[]⟩,Z U 0 0] 244 (0,0))
 below:Below w.heap.size w W
theorem xL.a {w W W':X}(h:xL w W)(a:Below W.heap.size W W'):xL w W':=⟨rl h.b a,au h.below a⟩
theorem xL.f {w W:X}(h:xL w W):W.cell? ⟨w.heap.size,0,U⟩=M (V ⟨#[]⟩)∧W.cell? ⟨w.heap.size,1,U⟩=M (Z U 0 0)∧W.frozen? ⟨w.heap.size,0,U⟩=F∧W.frozen? ⟨w.heap.size,1,U⟩=F :=
 ⟨aq W _ 0 _ _ _ h.b,aq W _ 1 _ _ _ h.b,aN W _ 0 _ _ h.b,aN W _ 1 _ _ h.b⟩
theorem Ix (l:aC)(ao:ag)(cap n:Nat)(w:X)(hl:bq w ao cap n (aI l))(hn:l.length=n)(hN:n<=1000)(hz:∀p∈l,p.1.size<=2000∧p.2.size<=2000):
 Calls prog 381 #[Z ao n cap] w fun e w'=>Hu w (kE (iH (aG nC l))) e w':=by
 have t:xL w (w.alloc (K #[V ⟨#[]⟩,Z U 0 0] 244)):=⟨aX w _,(ar _ _).alloc (ak _) _⟩;have B:=vO l nC ao cap n _ (hl.a ((ar _ _).alloc (ak _) (K #[V ⟨#[]⟩,Z U 0 0] 244))) hn (by omega) hz (by decide);have hd2:(iH (aG nC l)).1.length<=2000:=by
  have s:∀v∈aG nC l,v.size<=2000:=fun v T=>by
   obtain⟨p,hp,rfl⟩:=wL T;exact(hz p hp).2
  unfold iH;split
  . exact ax _
  . rename_i v T;have:=s v (by rw[T];simp);rw[cH];exact this
  . exact ax _
 unfold lU at B;unfold nC at B;generalize hd:iH (aG nC l)=d at *;have hd':iH (aG ⟨#[67,111,110,116,101,110,116,45,68,105,115,112,111,115,105,116,105,111,110]⟩ l)=d:=hd;rw[hd'] at B;by_cases C:d.2=0
 . have t0:((d.2:Int) != 0)=F:=by rw[C];rfl
   have g:=fun W=>BN ⟨d.1.toArray⟩ W (by show d.1.toArray.size<=_;rw[cz];omega);have hdt:(⟨d.1.toArray⟩:ae).data.toList=d.1:=rfl;rw[hdt] at g;generalize (⟨d.1.toArray⟩:ae)=vt at *;cases s:dY d.1 with
   | inl c =>
     have hc:=Dp s;have D:=Kp C s;rw[s] at g;have tc:((c:Int) != 0)=true:=by rw[di];omega
     go_enter func381,ntmps381;go_wp2_with fail;refine B.mono ?_;rintro e G ⟨rfl,i⟩;have j:=t.a i;go_wp2_with fail;refine(g G).mono ?_;rintro e w2 ⟨word,z,u,b,code,rfl,⟨rfl,q,y⟩,r,m⟩;have f:=(j.a m).a ((ar _ _).alloc (ak _) (K #[V word,Z u z.length b] 244));obtain⟨H,L,f0,f1⟩:=f.f;clear m  q y r;go_wp2;refine aR (v:=.tuple #[.agg #[V ⟨#[]⟩,Z U 0 0],I J (code:Int)]) (by simp[results,results381,go_sem,H,L]) rfl (Hu.a D hc ?_);first | exact f.below | exact(f.below.setCell (ak _) _).setCell (ak _) _
   | inr x =>
     by_cases S:x.1=qr
     . have D:=aa (Kt C s S);rw[s] at g;clear s C;go_enter func381,ntmps381;go_wp2_with fail;refine B.mono ?_;rintro e G ⟨rfl,i⟩;have j:=t.a i;go_wp2_with fail;refine(g G).mono ?_;rintro e w2 ⟨word,z,u,b,code,rfl,⟨rfl,q,y⟩,r,m⟩;have f:=(j.a m).a ((ar _ _).alloc (ak _) (K #[V word,Z u z.length b] 244));obtain⟨H,L,f0,f1⟩:=f.f;have tw:(word.toList==[102,111,114,109,45,100,97,116,97])=true:=by
        rw[cR,Lib.toList_data,q,S];rfl
       have hz1:=j.below.size;have hgt:=(bO.1 j.b).1;have sP:=(r.r (show w.heap.size<=G.heap.size from hz1)).B ((ar _ _).alloc (ak _) (K #[V word,Z u z.length b] 244));have N:∀a,u=M a->a.block≠w.heap.size:=fun a e=>by have:=(r.f a e).1;omega
       go_wp2;refine aR (v:=.tuple #[.agg #[V word,Z u z.length b],I J 0]) (by simp[results,results381,go_sem,H,L]) rfl ⟨word,z,u,b,0,rfl,?_,?_,?_⟩
       . rw[D];exact⟨rfl,y⟩
       . exact((sP.j (am.r (fun k=>k=w.heap.size) _ _ _ rfl) (fun a e=>N a e)).j (am.r (fun k=>k=w.heap.size) _ _ _ rfl) (fun a e=>N a e))
       . exact(f.below.setCell (ak _) _).setCell (ak _) _
     . have D:=aa (J3 C s S);rw[s] at g;go_enter func381,ntmps381;go_wp2_with fail;refine B.mono ?_;rintro e G ⟨rfl,i⟩;have j:=t.a i;go_wp2_with fail;refine(g G).mono ?_;rintro e w2 ⟨word,z,u,b,code,rfl,⟨rfl,q,y⟩,r,m⟩;have f:=(j.a m).a ((ar _ _).alloc (ak _) (K #[V word,Z u z.length b] 244));obtain⟨H,L,f0,f1⟩:=f.f;have tw:(word.toList==[102,111,114,109,45,100,97,116,97])=F:=by
        rw[aQ,Lib.toList_data,q];exact S
       go_wp2;refine aR (v:=.tuple #[.agg #[V ⟨#[]⟩,Z U 0 0],I J 11]) (by simp[results,results381,go_sem,H,L]) rfl (Hu.a (c:=11) D (by decide) ?_);first | exact f.below | exact(f.below.setCell (ak _) _).setCell (ak _) _
 . have t0:((d.2:Int) != 0)=true:=by rw[di];omega
   have D:Hid (kE d=.inl d.2):=by unfold Hid kE;rw[if_pos C]
   go_enter func381,ntmps381;go_wp2_with fail;refine B.mono ?_;rintro e G ⟨rfl,i⟩;have uV:=t.a i;obtain⟨H,L,f0,f1⟩:=uV.f;go_wp2;refine aR (v:=.tuple #[.agg #[V ⟨#[]⟩,Z U 0 0],I J (d.2:Int)]) (by simp[results,results381,go_sem,H,L]) rfl (Hu.a D.o C ?_);first | exact uV.below | exact(uV.below.setCell (ak _) _).setCell (ak _) _
def tY:Nat ⊕ oA->Value
 | .inl c=>.tuple #[.agg #[V ⟨#[]⟩,V ⟨#[]⟩,V ⟨#[]⟩,Z U 0 0],I J (c:Int)]
 | .inr p=>.tuple #[.agg #[V ⟨p.b.toArray⟩,V ⟨p.a.toArray⟩,V ⟨p.c.toArray⟩,Z U 0 0],I J 0]
structure xM (w W:X):Prop where
 b:W.heap[w.heap.size]? = M (K #[V ⟨#[]⟩,V ⟨#[]⟩,V ⟨#[]⟩,Z U 0 0] 96 (0,0))
 below:Below w.heap.size w W
theorem xM.a {w W W':X}(h:xM w W)(a:Below W.heap.size W W'):xM w W':=⟨rl h.b a,au h.below a⟩
theorem xM.f {w W:X}(h:xM w W):W.cell? ⟨w.heap.size,0,U⟩=M (V ⟨#[]⟩)∧W.cell? ⟨w.heap.size,1,U⟩=M (V ⟨#[]⟩)∧W.cell? ⟨w.heap.size,2,U⟩=M (V ⟨#[]⟩)∧W.cell? ⟨w.heap.size,3,U⟩=M (Z U 0 0)∧W.frozen? ⟨w.heap.size,0,U⟩=F∧W.frozen? ⟨w.heap.size,1,U⟩=F∧W.frozen? ⟨w.heap.size,2,U⟩=F∧W.frozen? ⟨w.heap.size,3,U⟩=F :=
 ⟨aq W _ 0 _ _ _ h.b,aq W _ 1 _ _ _ h.b,aq W _ 2 _ _ _ h.b,aq W _ 3 _ _ _ h.b,aN W _ 0 _ _ h.b,aN W _ 1 _ _ h.b,aN W _ 2 _ _ h.b,aN W _ 3 _ _ h.b⟩
theorem ue {w W:X}(h:Below w.heap.size w W)(a b c d:Value):Below w.heap.size w ((((W.setCell ⟨w.heap.size,0,U⟩ a).setCell ⟨w.heap.size,1,U⟩ b).setCell ⟨w.heap.size,2,U⟩ c).setCell ⟨w.heap.size,3,U⟩ d) :=
 (((h.setCell (ak _) _).setCell (ak _) _).setCell (ak _) _).setCell (ak _) _
theorem SV (l:aC)(ao:ag)(cap n:Nat)(w:X)(hl:bq w ao cap n (aI l))(hn:l.length=n)(hN:n<=1000)(hz:∀p∈l,p.1.size<=2000∧p.2.size<=2000):
 Calls prog 379 #[Z ao n cap] w fun e w'=>e=Y (tY (mO (iH (aG nC l)) (iH (aG qV l))))∧Below w.heap.size w w':=by
 have hR0:xM w (w.alloc (K #[V ⟨#[]⟩,V ⟨#[]⟩,V ⟨#[]⟩,Z U 0 0] 96)):=⟨aX w _,(ar _ _).alloc (ak _) _⟩;have HL:∀W,Below w.heap.size w W->bq W ao cap n (aI l):=fun W hW=>hl.a hW;have HD:=Ix l ao cap n _ (HL _ hR0.below) hn hN hz;have B:∀W,Below w.heap.size w W->Calls prog 206 #[Z ao n cap,V qV] W fun e w'=>e=Y (lU (iH (aG qV l)))∧Below W.heap.size W w':=fun W hW=>vO l qV ao cap n W (HL W hW) hn (by omega) hz (by decide);have hd2:(iH (aG nC l)).1.length<=2000:=by
  have hm:∀v∈aG nC l,v.size<=2000:=fun v hv=>by
   obtain⟨p,hp,rfl⟩:=wL hv;exact(hz p hp).2
  unfold iH;split
  . exact ax _
  . rename_i v hv;have:=hm v (by rw[hv];simp);rw[cH];exact this
  . exact ax _
 unfold lU at B;generalize iH (aG nC l)=d at *;generalize iH (aG qV l)=t at *;have hP:=Jw d t;unfold qV at B;cases hdi:kE d with
 | inl c =>
   rw[hdi] at HD hP;have HP:mO d t=.inl c:=hP;go_enter func379,ntmps379;go_wp2_with fail;refine HD.mono ?_;rintro e C ⟨word,s,u,a,code,rfl,⟨rfl,hc⟩,sU,hb1⟩;have tc:((code:Int) != 0)=true:=by rw[di];omega
   have D:=(hR0.a hb1).a ((ar _ _).alloc (ak _) (K #[V word,Z u s.length a] 244));obtain⟨G,H,L,N,f0,f1,f2,f3⟩:=D.f;go_wp2;refine aR (v:=.tuple #[.agg #[V ⟨#[]⟩,V ⟨#[]⟩,V ⟨#[]⟩,Z U 0 0],I J (code:Int)]) (by simp[results,results379,go_sem,G,H,L,N]) rfl ⟨by rw[HP];rfl,?_⟩;first | exact D.below | exact ue D.below _ _ _ _
 | inr xs =>
   have mH:=Ks hdi;rw[hdi] at HD hP;have hP:=hP;go_enter func379,ntmps379;go_wp2_with fail;refine HD.mono ?_;rintro e C ⟨word,s,u,a,code,rfl,⟨rfl,hps⟩,sU,hb1⟩;subst hps;obtain⟨q,y⟩:∃q,s.length=q:=⟨_,rfl⟩;rw[y] at sU;rw[y];have hn8:q<=8:=by rw[<-y,<-yl];exact mH.1
   have hvz:∀p∈s,p.2.size<=2000:=fun p hp=>by
    have:=mH.2 (p.1.data.toList,p.2.data.toList) (my.2 ⟨p,hp,rfl⟩);have h2:=this;rw[cH] at h2;omega
   have hbM:Below C.heap.size C (C.alloc (K #[V word,Z u q a] 244)):=(ar _ _).alloc (ak _) _;have D:=(hR0.a hb1).a hbM;have hM1:=aX C (K #[V word,Z u q a] 244);have hV1:=sU.a.a hbM;have V8:=yA word s ⟨#[110,97,109,101]⟩ u a q _ hV1 y (by omega) (fun p hp=>by have:=hvz p hp;omega);have Ko:∀W,Below (C.alloc (K #[V word,Z u q a] 244)).heap.size (C.alloc (K #[V word,Z u q a] 244)) W->Calls prog 382 #[.agg #[V word,Z u q a]] W fun e w'=>e=Y (pg (lu (dy s)))∧Below W.heap.size W w':=fun W hW=>Lz word s u a q W (hV1.a hW) y (by omega) (fun p hp=>by have:=hvz p hp;omega);have HR1:=D;have YB:=aa hM1;have HP:=aa hP;have HVz:=aa hvz
   generalize hW1:(C.alloc (K #[V word,Z u q a] 244))=W1 at *;have m0:=aq W1 _ 0 _ _ _ YB.o;have m1:W1.cell? ⟨C.heap.size,1,U⟩=M (Z u q a):=aq W1 _ 1 _ _ _ YB.o;cases S:iB ⟨#[110,97,109,101]⟩ s with
   | none =>
     have g1:ib wO (dy s)=U:=AT S;rw[S] at V8;have j:mO d t=.inl 6:=by rw[HP];unfold ub;rw[g1]
     go_wp2_with fail;refine V8.mono ?_;rintro e r ⟨rfl,b⟩;have hR3:=D.a b;obtain⟨G,H,L,N,f0,f1,f2,f3⟩:=hR3.f;go_wp2;refine aR (v:=.tuple #[.agg #[V ⟨#[]⟩,V ⟨#[]⟩,V ⟨#[]⟩,Z U 0 0],I J 6]) (by simp[results,results379,go_sem,G,H,L,N]) rfl ⟨by rw[j];rfl,?_⟩;first | exact hR3.below | exact ue hR3.below _ _ _ _
   | some x =>
     obtain⟨g1,_⟩:=Ak S;have g1:ib wO (dy s)=M x.data.toList:=g1;rw[S] at V8;cases T:lu (dy s) with
     | none =>
       rw[T] at Ko;have j:mO d t=.inl 5:=by rw[HP];unfold ub;rw[g1,T]
       go_wp2_with fail;refine V8.mono ?_;rintro e r ⟨rfl,b⟩;have g:=rl YB.o b;have n0:=aq r _ 0 _ _ _ g;have n1:=aq r _ 1 _ _ _ g;go_wp2_with fail;refine(Ko r b).mono ?_;rintro e w4 ⟨rfl,k⟩;unfold pg;have hR4:=(D.a b).a k;obtain⟨G,H,L,N,f0,f1,f2,f3⟩:=hR4.f;have i:=aa hR4;go_wp2;refine aR (v:=.tuple #[.agg #[V ⟨#[]⟩,V ⟨#[]⟩,V ⟨#[]⟩,Z U 0 0],I J 5]) (by simp[results,results379,go_sem,G,H,L,N]) rfl ⟨by rw[j];rfl,?_⟩;first | exact i.o.below | exact ue i.o.below _ _ _ _
     | some f =>
       rw[T] at Ko;have z:mO d t=if t.2=9 then .inl 9 else .inr ⟨x.data.toList,f,t.1⟩:=by rw[HP];unfold ub;rw[g1,T]
       by_cases h9:t.2=9
       . rw[if_pos h9] at z;have j:=aa z;have t9:((t.2:Int)==9)=true:=by rw[h9];rfl
         have HT9:=aa h9;clear z h9;go_wp2_with fail;refine V8.mono ?_;rintro e r ⟨rfl,b⟩;have g:=rl YB.o b;have n0:=aq r _ 0 _ _ _ g;have n1:=aq r _ 1 _ _ _ g;clear  g m0 m1 hW1;go_wp2_with fail;refine(Ko r b).mono ?_;rintro e w4 ⟨rfl,k⟩;unfold pg;have i:=(D.a b).a k;clear k n0 n1;go_wp2_with fail;refine(B w4 i.below).mono ?_;rintro e w5 ⟨rfl,hb5⟩;have m:=i.a hb5;obtain⟨G,H,L,N,f0,f1,f2,f3⟩:=m.f;go_wp2;refine aR (v:=.tuple #[.agg #[V ⟨#[]⟩,V ⟨#[]⟩,V ⟨#[]⟩,Z U 0 0],I J (t.2:Int)]) (by simp[results,results379,go_sem,G,H,L,N]) rfl ⟨by rw[j,HT9.o];rfl,?_⟩;first | exact m.below | exact ue m.below _ _ _ _
       . rw[if_neg h9] at z;have j:=aa z;have t9:((t.2:Int)==9)=F:=by rw[aQ];omega
         go_wp2_with fail;refine V8.mono ?_;rintro e r ⟨rfl,b⟩;have g:=rl YB.o b;have n0:=aq r _ 0 _ _ _ g;have n1:=aq r _ 1 _ _ _ g;go_wp2_with fail;refine(Ko r b).mono ?_;rintro e w4 ⟨rfl,k⟩;unfold pg;have i:=(D.a b).a k;go_wp2_with fail;refine(B w4 i.below).mono ?_;rintro e w5 ⟨rfl,hb5⟩;have m:=i.a hb5;obtain⟨G,H,L,N,f0,f1,f2,f3⟩:=m.f;go_wp2;refine aR (v:=.tuple #[.agg #[V x,V ⟨f.toArray⟩,V ⟨t.1.toArray⟩,Z U 0 0],I J 0]) (by simp[results,results379,go_sem,G,H,L,N]) rfl ⟨by rw[j];unfold tY;simp only[],?_⟩;exact ue m.below _ _ _ _
theorem RP (l:aC)(ao:ag)(cap n:Nat)(w:X)(a:bq w ao cap n (aI l))(b:l.length=n)(c:n<=1000)(d:∀p∈l,p.1.size<=2000∧p.2.size<=2000):
 Calls prog 379 #[Z ao n cap] w fun e w'=>e=Y (tY (kD (gU l)))∧Below w.heap.size w w':=by
 have h:=SV l ao cap n w a b c d;rw[GY nC ⟨zD.toArray⟩ l (by decide) (by decide),GY qV ⟨zH.toArray⟩ l (by decide) (by decide)] at h;exact h
