/- Small texts, one behind the other: PmParse, PmGet, FsE, FsF, FsG. -/
import Derived.Test.YthhklgjjnaeaoaaGreatDoorPk26
import Derived.Test.YthhklgjjnaeaoaaGreatDoorPk32
import Derived.Test.YthhklgjjnaeaoaaGreatDoorPk22
import Derived.Test.YthhklgjjnaeaoaaGreatDoorPk27
open Go.Value renaming int->I,string->V,slice->Z
open Go.IntKind renaming i64->J
open Go.Obj renaming cells->K
open Go.Ending renaming returned->Y
open Option renaming none->U,some->M
open Bool renaming false->F
open Go renaming World->X
set_option maxHeartbeats 4000000
set_option maxRecDepth 100000
open Go.Proofs.Tryz
namespace Go.Proofs.YthhklgjjnaeaoaaGreatDoor
open Go.RowKit
theorem Sd (s:ay)(w:X)(k:s.size<=100000)(a:Ch.gV s.data.toList=F):
 Calls prog 225 #[V s] w fun e w'=>uz w (Pm.jL s.data.toList) e w':=by
 have f:Hid (Pm.jL s.data.toList=.inl 3):=by unfold Hid Pm.jL;rw[if_pos a]
 have b:=kJ s (w.alloc (K #[V ⟨#[]⟩,Z U 0 0] 206)) (by unfold maxLen;omega);rw[a] at b;have d:Below w.heap.size w (w.alloc (K #[V ⟨#[]⟩,Z U 0 0] 206)):=(eY _ _).alloc (aM _) _;have g:(w.alloc (K #[V ⟨#[]⟩,Z U 0 0] 206)).cell? ⟨w.heap.size,0,U⟩=M (V ⟨#[]⟩):=World.cell?_alloc_mark w _ _ _ 0;have i:(w.alloc (K #[V ⟨#[]⟩,Z U 0 0] 206)).cell? ⟨w.heap.size,1,U⟩=M (Z U 0 0):=World.cell?_alloc_mark w _ _ _ 1;go_enter func225,ntmps225;go_wp2_with fail
 refine b.mono ?_;rintro e l ⟨rfl,j⟩;subst j;go_wp2;refine fI (v:=.tuple #[.agg #[V ⟨#[]⟩,Z U 0 0],I J 3]) (by simp[results,results225,go_sem,g,i]) rfl (uz.bad (c:=3) f.o ?_);first | exact d | exact(d.setCell (aM _) _).setCell (aM _) _
theorem NJ (s:ay)(w:X)(L:s.size<=100000)(N:Ch.gV s.data.toList=true):
 Calls prog 225 #[V s] w fun e w'=>uz w (Pm.jL s.data.toList) e w':=by
 have m:=Pm.Zj s.data.toList N;have p:=kJ s (w.alloc (K #[V ⟨#[]⟩,Z U 0 0] 206)) (by unfold maxLen;omega);rw[N] at p;have Qi:∀(T:Fn) (first b:Array Value) (w:X),(Instr.makeFunc T first b).run prog w=.ok (.func T first b) w:=fun _ _ _ _=>rfl;have q:Below w.heap.size w (w.alloc (K #[V ⟨#[]⟩,Z U 0 0] 206)):=(eY _ _).alloc (aM _) _;have r1:(w.alloc (K #[V ⟨#[]⟩,Z U 0 0] 206)).heap[w.heap.size]? = M (K #[V ⟨#[]⟩,Z U 0 0] 206 (0,0)):=eX w _;have g:Below (w.heap.size+1) (w.alloc (K #[V ⟨#[]⟩,Z U 0 0] 206)) ((w.alloc (K #[V ⟨#[]⟩,Z U 0 0] 206)).alloc (K #[V s,I J 0] 298)):=(eY _ _).alloc (by simp) _;have hz:(w.alloc (K #[V ⟨#[]⟩,Z U 0 0] 206)).heap.size=w.heap.size+1:=by simp
 have i:iR ((w.alloc (K #[V ⟨#[]⟩,Z U 0 0] 206)).alloc (K #[V s,I J 0] 298)) (w.heap.size+1) s 0:=by
  have:=eX (w.alloc (K #[V ⟨#[]⟩,Z U 0 0] 206)) (K #[V s,I J 0] 298);rw[hz] at this;exact this
 have j:=(g.block _ (by omega)).trans r1;have W:Below w.heap.size w ((w.alloc (K #[V ⟨#[]⟩,Z U 0 0] 206)).alloc (K #[V s,I J 0] 298)):=q.trans (g.mono (by omega));have r:((w.alloc (K #[V ⟨#[]⟩,Z U 0 0] 206)).alloc (K #[V s,I J 0] 298)).heap.size=w.heap.size+2:=by simp
 cases n:Pm.D5 s.data.toList 0 with
 | inl c =>
   rw[n] at m;go_enter func225,ntmps225;go_wp2_with fail
   refine p.mono ?_;rintro e w1 ⟨rfl,t⟩;subst t;go_wp2_with fail
   refine(Sc s (w.heap.size+1) w.heap.size _ i L c n).mono ?_;rintro e d ⟨rfl,o⟩;have f:=o.row j (fun e=>by unfold only at e;omega);have l:=W.trans (o.below (B:=w.heap.size) (fun k e=>by unfold only at e;omega) (by simp;omega));have u:=eZ d _ 0 _ _ _ f;have y:=eZ d _ 1 _ _ _ f;have f0:=fq d _ 0 _ _ f;have f1:=fq d _ 1 _ _ f;go_wp2;refine fI (v:=.tuple #[.agg #[V ⟨#[]⟩,Z U 0 0],I J (c:Int)]) (by simp[results,results225,go_sem,u,y]) rfl (uz.bad (c:=c) m ?_);first | exact l | exact(l.setCell (aM _) _).setCell (aM _) _
 | inr x =>
   rw[n] at m;have HC:=NI s (w.heap.size+1) w.heap.size _ i j L x n;rw[r] at HC;go_enter func225,ntmps225;go_wp2_with fail
   refine p.mono ?_;rintro e w1 ⟨rfl,t⟩;subst t;go_wp2_with fail
   refine HC.mono ?_;rintro e d ⟨rfl,⟨z,C,ao,b,hd,D,G,H⟩,o⟩;have f:=H9 hd;have l:=W.trans (o.below (B:=w.heap.size) (fun k e=>by unfold both at e;omega) (by simp;omega));have HE:Wx (.inr x) z C 0:=⟨rfl,D,G⟩;have u:=eZ d _ 0 _ _ _ f;have y:=eZ d _ 1 _ _ _ f;have f0:=fq d _ 0 _ _ f;have f1:=fq d _ 1 _ _ f;go_wp2;refine fI (v:=.tuple #[.agg #[V z,Z ao C.length b],I J 0]) (by simp[results,results225,go_sem,u,y]) rfl ⟨z,C,ao,b,0,rfl,by rw[m];exact HE,?_,?_⟩
   . first
      | exact H.mono (by omega)
      | (refine gH.turns (S:=fun k=>k=w.heap.size) (gH.turns (S:=fun k=>k=w.heap.size) (H.mono (by omega)) (Turns.setCell _ _ _ _ rfl) (fun a e e2=>?_)) (Turns.setCell _ _ _ _ rfl) (fun a e e2=>?_) <;> (have:=(H.block a e).1;omega))
   . first | exact l | exact(l.setCell (aM _) _).setCell (aM _) _
theorem xZ (s:ay)(w:X)(a:s.size<=100000):
 Calls prog 225 #[V s] w fun e w'=>uz w (Pm.jL s.data.toList) e w':=by
 cases b:Ch.gV s.data.toList
 . exact Sd s w a b
 . exact NJ s w a b
theorem zC (word:ay)(l:au)(a:ay)(ao:ak)(cap n:Nat)(w:X)(q:ji w ao cap n (gG l))(s:l.length=n)(t:n<=1000000)(u:∀p∈l,p.2.size<=1000000):
 Calls prog 240 #[.agg #[V word,Z ao n cap],V a] w fun e w'=>e=Y (.tuple #[V ((kR a l).getD ⟨#[]⟩),.bool (kR a l).isSome])∧Below w.heap.size w w':=by
 subst s;have c:=BoxM.start w word ao l.length cap;have v:=wX l a ao cap l.length _ (q.stay c.below) rfl t;go_enter func240,ntmps240;go_wp2_with fail
 refine v.mono ?_;rintro e x ⟨r,rfl,y,z⟩;have b:=c.keep z;rcases y with ⟨rfl,d⟩ | ⟨k,f,rfl,B,g⟩
 . have i:=H9 (K9 d);go_wp2;go_ret2;exact⟨by rw[i.o];rfl,b.below⟩
 . have i:=H9 (SG f g B);have S:decide ((k:Int)<0)=F:=by rw[bO];omega
   obtain⟨C,D,rfl,j⟩:=(q.stay b.below).lit (by rw[mF];omega);have G:x.cell? ⟨C,D+k*2+1,U⟩=M (V l[k].2):=by
    have:=j _ _ (mQ l k f).2;rwa[<-bJ] at this
   have T:=b.cells.2;have H:(k:Int)<l.length:=by omega
   have L:=fun W=>kW l[k].2 W (u _ (aC f));generalize l[k]=p at *;go_wp2_with fail
   refine(L _).mono ?_;rintro e w2 ⟨rfl,N⟩;have m:=b.keep N;go_wp2;go_ret2;exact⟨by rw[i.o];rfl,m.below⟩
theorem Ec (a:ay):∀b:au,(kR a b).map (fun x=>x.data.toList)=Fm.get a.data.toList (lD b):=by intro l;induction l <;> grind [kR,Fm.get,lD]
theorem IV {a:ay}{b:au}{x:ay}(h:kR a b=M x):Fm.get a.data.toList (lD b)=M x.data.toList∧∃p∈b,p.2=x:=by
 refine⟨by rw[<-Ec,h];rfl,?_⟩;induction b with
 | nil=>cases h
 | cons p t c =>
   unfold kR at h;split at h
   . injection h with h;exact⟨p,cu ..,h⟩
   . obtain⟨q,d,e⟩:=c h;exact⟨q,cB _ d,e⟩
theorem Oe {a:ay}{b:au}(h:kR a b=U):Fm.get a.data.toList (lD b)=U:=by rw[<-Ec,h];rfl
theorem WQ (b a:ay)(l:au)(h:Ch.lower b.data.toList=a.data.toList)(c:Ch.lower a.data.toList=a.data.toList):Fd.one (Fd.vals b l)=Fm.one (Rq.vals (Rq.EZ l) a.data.toList):=by
 rw[Rq.Dz l a c,Fd.kQ b a l (h.trans c.symm)];unfold Fd.one Fm.one;match Fd.vals a l with
 | []=>rfl
 | [v]=>rfl
 | _::_::_=>rfl
theorem qO {w W W':X}{a:Array Value}{t:Nat}(h:W.heap[w.heap.size]? = M (K a t (0,0)))(b:Below W.heap.size W W'):W'.heap[w.heap.size]? = M (K a t (0,0)):=(b.block _ (aL.1 h).1).trans h
theorem IW (word:ay)(b:au)(ao:ak)(cap n:Nat)(w:X)(N:ji w ao cap n (gG b))(S:b.length=n)(hN:n<=1000)(r:∀p∈b,p.2.size<=100000):
 Calls prog 355 #[.agg #[V word,Z ao n cap]] w fun e w'=>e=Y (Fm.vY (Fm.file (lD b)))∧Below w.heap.size w w':=by
 have d:Below w.heap.size w (w.alloc (K #[V word,Z ao n cap] 206)):=(eY _ _).alloc (aM _) _;have m:=zC word b ⟨#[102,105,108,101,110,97,109,101,42]⟩ ao cap n _ (N.stay d) S (by omega) (fun p i=>by have:=r p i;omega);have g:∀W,Below (w.alloc (K #[V word,Z ao n cap] 206)).heap.size (w.alloc (K #[V word,Z ao n cap] 206)) W->Calls prog 240 #[.agg #[V word,Z ao n cap],V ⟨#[102,105,108,101,110,97,109,101]⟩] W fun e w'=>e=Y (.tuple #[V ((kR ⟨#[102,105,108,101,110,97,109,101]⟩ b).getD ⟨#[]⟩),.bool (kR ⟨#[102,105,108,101,110,97,109,101]⟩ b).isSome])∧Below W.heap.size W w':=fun W hW=>zC word b _ ao cap n W ((N.stay d).stay hW) S (by omega) (fun p i=>by have:=r p i;omega);have T:=eX w (K #[V word,Z ao n cap] 206);cases s:kR ⟨#[102,105,108,101,110,97,109,101,42]⟩ b with
 | some x =>
   obtain⟨t,p,i,rfl⟩:=IV s;have B:=r p i;rw[s] at m;have q:Fm.file (lD b)=(Fm.coded p.2.data.toList).map Fm.safe:=by
    unfold Fm.file;have:Fm.get Fm.Ig (lD b)=M p.2.data.toList:=t;rw[this]
   have u:=H9 q;have v:=H9 (fun W=>Od p.2 W (by omega));cases C:Fm.coded p.2.data.toList with
   | none =>
     rw[C] at v u;go_enter func355,ntmps355;go_wp2_with fail
     refine m.mono ?_;rintro e j ⟨rfl,a⟩;go_wp2_with fail
     refine(v.o _).mono ?_;rintro e D ⟨rfl,c⟩;unfold Fm.vY;have k:=then_ (then_ d a) c;go_wp2;go_ret2;exact⟨by rw[u.o];rfl,k⟩
   | some y =>
     have hy:=Fm.SF C;rw[Ch.iK] at hy;rw[C] at v u;go_enter func355,ntmps355;go_wp2_with fail
     refine m.mono ?_;rintro e j ⟨rfl,a⟩;go_wp2_with fail
     refine(v.o _).mono ?_;rintro e D ⟨rfl,c⟩;unfold Fm.vY;go_wp2_with fail
     refine((fun W=>K4 ⟨y.toArray⟩ W (by show y.toArray.size<=_;rw[bK];omega)) _).mono ?_;rintro e w3 ⟨rfl,l⟩;have k:=then_ (then_ (then_ d a) c) l;go_wp2;go_ret2;exact⟨by rw[u.o];rfl,k⟩
 | none =>
   have t:=Oe s;rw[s] at m;cases z:kR ⟨#[102,105,108,101,110,97,109,101]⟩ b with
   | some x =>
     obtain⟨G,p,i,rfl⟩:=IV z;have B:=r p i;rw[z] at g;have q:Fm.file (lD b)=M (Fm.safe p.2.data.toList):=by
      unfold Fm.file;have H:Fm.get Fm.Ig (lD b)=U:=t;have L:Fm.get Fm.MS (lD b)=M p.2.data.toList:=G;rw[H,L]
     go_enter func355,ntmps355;go_wp2_with fail
     refine m.mono ?_;rintro e j ⟨rfl,a⟩;have f:=qO T a;have c0:=eZ j _ 0 _ _ _ f;have c1:=eZ j _ 1 _ _ _ f;go_wp2_with fail
     refine(g _ a).mono ?_;rintro e D ⟨rfl,c⟩;go_wp2_with fail
     refine((fun W=>K4 p.2 W (by omega)) _).mono ?_;rintro e w3 ⟨rfl,l⟩;have k:=then_ (then_ (then_ d a) c) l;go_wp2;go_ret2;exact⟨by rw[q];rfl,k⟩
   | none =>
     have G:=Oe z;rw[z] at g;have q:Fm.file (lD b)=M []:=by
      unfold Fm.file;have H:Fm.get Fm.Ig (lD b)=U:=t;have L:Fm.get Fm.MS (lD b)=U:=G;rw[H,L]
     go_enter func355,ntmps355;go_wp2_with fail
     refine m.mono ?_;rintro e j ⟨rfl,a⟩;have f:=qO T a;have c0:=eZ j _ 0 _ _ _ f;have c1:=eZ j _ 1 _ _ _ f;go_wp2_with fail
     refine(g _ a).mono ?_;rintro e D ⟨rfl,c⟩;have k:=then_ (then_ d a) c;go_wp2;go_ret2;exact⟨by rw[q];rfl,k⟩
def abU (m:Nat ⊕ List Pm.rT)(ps:au)(code:Nat):Prop :=
 match m with
 | .inl c=>code=c∧c≠0
 | .inr x=>code=0∧lD ps=x
def xg (w:X)(m:Nat ⊕ List Pm.rT)(e:Ending)(w':X):Prop :=
 ∃word ps ao cap,∃code:Nat,e=Y (.tuple #[.agg #[V word,Z ao ps.length cap],I J (code:Int)])∧abU m ps code∧gH w' w.heap.size 240 2 ao cap ps.length (gG ps)∧Below w.heap.size w w'
theorem xg.bad {w w':X}{m:Nat ⊕ List Pm.rT}{c:Nat}(a:m=.inl c)(b:c≠0)(d:Below w.heap.size w w'):xg w m (Y (.tuple #[.agg #[V ⟨#[]⟩,Z U 0 0],I J (c:Int)])) w':=by
 subst a;exact⟨⟨#[]⟩,[],U,0,c,rfl,⟨rfl,b⟩,gH.nil _ _ _ _,d⟩
def qQ:ay:=⟨#[67,111,110,116,101,110,116,45,68,105,115,112,111,115,105,116,105,111,110]⟩
def bType:ay:=⟨#[67,111,110,116,101,110,116,45,84,121,112,101]⟩
structure Tv (w W:X):Prop where
 row:W.heap[w.heap.size]? = M (K #[V ⟨#[]⟩,Z U 0 0] 206 (0,0))
 below:Below w.heap.size w W
theorem Tv.stay {w W W':X}(h:Tv w W)(a:Below W.heap.size W W'):Tv w W':=⟨qO h.row a,then_ h.below a⟩
theorem Tv.cells {w W:X}(h:Tv w W):W.cell? ⟨w.heap.size,0,U⟩=M (V ⟨#[]⟩)∧W.cell? ⟨w.heap.size,1,U⟩=M (Z U 0 0)∧W.frozen? ⟨w.heap.size,0,U⟩=F∧W.frozen? ⟨w.heap.size,1,U⟩=F :=
 ⟨eZ W _ 0 _ _ _ h.row,eZ W _ 1 _ _ _ h.row,fq W _ 0 _ _ h.row,fq W _ 1 _ _ h.row⟩
theorem Ca (l:au)(ao:ak)(cap n:Nat)(w:X)(hl:ji w ao cap n (gG l))(hn:l.length=n)(hN:n<=1000)(hz:∀p∈l,p.1.size<=2000∧p.2.size<=2000):
 Calls prog 354 #[Z ao n cap] w fun e w'=>xg w (Fm.zB (Fd.one (Fd.vals qQ l))) e w':=by
 have t:Tv w (w.alloc (K #[V ⟨#[]⟩,Z U 0 0] 206)):=⟨eX w _,(eY _ _).alloc (aM _) _⟩;have B:=sU l qQ ao cap n _ (hl.stay ((eY _ _).alloc (aM _) (K #[V ⟨#[]⟩,Z U 0 0] 206))) hn (by omega) hz (by decide);have hd2:(Fd.one (Fd.vals qQ l)).1.length<=2000:=by
  have s:∀v∈Fd.vals qQ l,v.size<=2000:=fun v S=>by
   obtain⟨p,hp,rfl⟩:=Fd.za S;exact(hz p hp).2
  unfold Fd.one;split
  . exact aA _
  . rename_i v S;have:=s v (by rw[S];simp);rw[Ch.iK];exact this
  . exact aA _
 unfold sM at B;unfold qQ at B;generalize hd:Fd.one (Fd.vals qQ l)=d at *;have T:Fd.one (Fd.vals ⟨#[67,111,110,116,101,110,116,45,68,105,115,112,111,115,105,116,105,111,110]⟩ l)=d:=hd;rw[T] at B;by_cases C:d.2=0
 . have t0:((d.2:Int) != 0)=F:=by rw[C];rfl
   have g:=fun W=>xZ ⟨d.1.toArray⟩ W (by show d.1.toArray.size<=_;rw[bK];omega);have hdt:(⟨d.1.toArray⟩:ay).data.toList=d.1:=rfl;rw[hdt] at g;generalize (⟨d.1.toArray⟩:ay)=vt at *;cases s:Pm.jL d.1 with
   | inl c =>
     have hc:=Fm.Dg s;have D:=Fm.WM C s;rw[s] at g;have tc:((c:Int) != 0)=true:=by rw[cK];omega
     go_enter func354,ntmps354;go_wp2_with fail
     refine B.mono ?_;rintro e G ⟨rfl,i⟩;have j:=t.stay i;go_wp2_with fail
     refine(g G).mono ?_;rintro e w2 ⟨word,z,u,b,code,rfl,⟨rfl,q,y⟩,r,m⟩;have f:=(j.stay m).stay ((eY _ _).alloc (aM _) (K #[V word,Z u z.length b] 206));obtain⟨H,L,f0,f1⟩:=f.cells;clear m  q y r;go_wp2;refine fI (v:=.tuple #[.agg #[V ⟨#[]⟩,Z U 0 0],I J (code:Int)]) (by simp[results,results354,go_sem,H,L]) rfl (xg.bad D hc ?_);first | exact f.below | exact(f.below.setCell (aM _) _).setCell (aM _) _
   | inr x =>
     by_cases N:x.1=Fm.Da
     . have D:=H9 (Fm.Zo C s N);rw[s] at g;clear s C;go_enter func354,ntmps354;go_wp2_with fail
       refine B.mono ?_;rintro e G ⟨rfl,i⟩;have j:=t.stay i;go_wp2_with fail
       refine(g G).mono ?_;rintro e w2 ⟨word,z,u,b,code,rfl,⟨rfl,q,y⟩,r,m⟩;have f:=(j.stay m).stay ((eY _ _).alloc (aM _) (K #[V word,Z u z.length b] 206));obtain⟨H,L,f0,f1⟩:=f.cells;have tw:(word.toList==[102,111,114,109,45,100,97,116,97])=true:=by
        rw[aS,Lib.toList_data,q,N];rfl
       have hz1:=j.below.size;have hgt:=(aL.1 j.row).1;have rZ:=(r.mono (show w.heap.size<=G.heap.size from hz1)).stay ((eY _ _).alloc (aM _) (K #[V word,Z u z.length b] 206));have E9:∀a,u=M a->a.block≠w.heap.size:=fun a e=>by have:=(r.block a e).1;omega
       go_wp2;refine fI (v:=.tuple #[.agg #[V word,Z u z.length b],I J 0]) (by simp[results,results354,go_sem,H,L]) rfl ⟨word,z,u,b,0,rfl,?_,?_,?_⟩
       . rw[D];exact⟨rfl,y⟩
       . exact((rZ.turns (Turns.setCell (fun k=>k=w.heap.size) _ _ _ rfl) (fun a e=>E9 a e)).turns (Turns.setCell (fun k=>k=w.heap.size) _ _ _ rfl) (fun a e=>E9 a e))
       . exact(f.below.setCell (aM _) _).setCell (aM _) _
     . have D:=H9 (Fm.SE C s N);rw[s] at g;go_enter func354,ntmps354;go_wp2_with fail
       refine B.mono ?_;rintro e G ⟨rfl,i⟩;have j:=t.stay i;go_wp2_with fail
       refine(g G).mono ?_;rintro e w2 ⟨word,z,u,b,code,rfl,⟨rfl,q,y⟩,r,m⟩;have f:=(j.stay m).stay ((eY _ _).alloc (aM _) (K #[V word,Z u z.length b] 206));obtain⟨H,L,f0,f1⟩:=f.cells;have tw:(word.toList==[102,111,114,109,45,100,97,116,97])=F:=by
        rw[aR,Lib.toList_data,q];exact N
       go_wp2;refine fI (v:=.tuple #[.agg #[V ⟨#[]⟩,Z U 0 0],I J 11]) (by simp[results,results354,go_sem,H,L]) rfl (xg.bad (c:=11) D (by decide) ?_);first | exact f.below | exact(f.below.setCell (aM _) _).setCell (aM _) _
 . have t0:((d.2:Int) != 0)=true:=by rw[cK];omega
   have D:Hid (Fm.zB d=.inl d.2):=by unfold Hid Fm.zB;rw[if_pos C]
   go_enter func354,ntmps354;go_wp2_with fail
   refine B.mono ?_;rintro e G ⟨rfl,i⟩;have uF:=t.stay i;obtain⟨H,L,f0,f1⟩:=uF.cells;go_wp2;refine fI (v:=.tuple #[.agg #[V ⟨#[]⟩,Z U 0 0],I J (d.2:Int)]) (by simp[results,results354,go_sem,H,L]) rfl (xg.bad D.o C ?_);first | exact uF.below | exact(uF.below.setCell (aM _) _).setCell (aM _) _
def Fm.Lv:Nat ⊕ Fm.YR->Value
 | .inl c=>.tuple #[.agg #[V ⟨#[]⟩,V ⟨#[]⟩,V ⟨#[]⟩,Z U 0 0],I J (c:Int)]
 | .inr p=>.tuple #[.agg #[V ⟨p.name.toArray⟩,V ⟨p.file.toArray⟩,V ⟨p.type.toArray⟩,Z U 0 0],I J 0]
structure Tw (w W:X):Prop where
 row:W.heap[w.heap.size]? = M (K #[V ⟨#[]⟩,V ⟨#[]⟩,V ⟨#[]⟩,Z U 0 0] 96 (0,0))
 below:Below w.heap.size w W
theorem Tw.stay {w W W':X}(h:Tw w W)(a:Below W.heap.size W W'):Tw w W':=⟨qO h.row a,then_ h.below a⟩
theorem Tw.cells {w W:X}(h:Tw w W):W.cell? ⟨w.heap.size,0,U⟩=M (V ⟨#[]⟩)∧W.cell? ⟨w.heap.size,1,U⟩=M (V ⟨#[]⟩)∧W.cell? ⟨w.heap.size,2,U⟩=M (V ⟨#[]⟩)∧W.cell? ⟨w.heap.size,3,U⟩=M (Z U 0 0)∧W.frozen? ⟨w.heap.size,0,U⟩=F∧W.frozen? ⟨w.heap.size,1,U⟩=F∧W.frozen? ⟨w.heap.size,2,U⟩=F∧W.frozen? ⟨w.heap.size,3,U⟩=F :=
 ⟨eZ W _ 0 _ _ _ h.row,eZ W _ 1 _ _ _ h.row,eZ W _ 2 _ _ _ h.row,eZ W _ 3 _ _ _ h.row,fq W _ 0 _ _ h.row,fq W _ 1 _ _ h.row,fq W _ 2 _ _ h.row,fq W _ 3 _ _ h.row⟩
theorem Ep {w W:X}(h:Below w.heap.size w W)(a b c d:Value):Below w.heap.size w ((((W.setCell ⟨w.heap.size,0,U⟩ a).setCell ⟨w.heap.size,1,U⟩ b).setCell ⟨w.heap.size,2,U⟩ c).setCell ⟨w.heap.size,3,U⟩ d) :=
 (((h.setCell (aM _) _).setCell (aM _) _).setCell (aM _) _).setCell (aM _) _
theorem Zz (l:au)(ao:ak)(cap n:Nat)(w:X)(hl:ji w ao cap n (gG l))(hn:l.length=n)(hN:n<=1000)(hz:∀p∈l,p.1.size<=2000∧p.2.size<=2000):
 Calls prog 352 #[Z ao n cap] w fun e w'=>e=Y (Fm.Lv (Fm.qH (Fd.one (Fd.vals qQ l)) (Fd.one (Fd.vals bType l))))∧Below w.heap.size w w':=by
 have hR0:Tw w (w.alloc (K #[V ⟨#[]⟩,V ⟨#[]⟩,V ⟨#[]⟩,Z U 0 0] 96)):=⟨eX w _,(eY _ _).alloc (aM _) _⟩;have HL:∀W,Below w.heap.size w W->ji W ao cap n (gG l):=fun W hW=>hl.stay hW;have HD:=Ca l ao cap n _ (HL _ hR0.below) hn hN hz;have z:∀W,Below w.heap.size w W->Calls prog 168 #[Z ao n cap,V bType] W fun e w'=>e=Y (sM (Fd.one (Fd.vals bType l)))∧Below W.heap.size W w':=fun W hW=>sU l bType ao cap n W (HL W hW) hn (by omega) hz (by decide);have hd2:(Fd.one (Fd.vals qQ l)).1.length<=2000:=by
  have hm:∀v∈Fd.vals qQ l,v.size<=2000:=fun v hv=>by
   obtain⟨p,hp,rfl⟩:=Fd.za hv;exact(hz p hp).2
  unfold Fd.one;split
  . exact aA _
  . rename_i v hv;have:=hm v (by rw[hv];simp);rw[Ch.iK];exact this
  . exact aA _
 unfold sM at z;generalize Fd.one (Fd.vals qQ l)=d at *;generalize Fd.one (Fd.vals bType l)=t at *;have hP:=Fm.K7 d t;unfold bType at z;cases hdi:Fm.zB d with
 | inl c =>
   rw[hdi] at HD hP;have HP:Fm.qH d t=.inl c:=hP;go_enter func352,ntmps352;go_wp2_with fail
   refine HD.mono ?_;rintro e B ⟨word,r,s,a,code,rfl,⟨rfl,hc⟩,sj,hb1⟩;have tc:((code:Int) != 0)=true:=by rw[cK];omega
   have C:=(hR0.stay hb1).stay ((eY _ _).alloc (aM _) (K #[V word,Z s r.length a] 206));obtain⟨D,G,H,L,f0,f1,f2,f3⟩:=C.cells;go_wp2;refine fI (v:=.tuple #[.agg #[V ⟨#[]⟩,V ⟨#[]⟩,V ⟨#[]⟩,Z U 0 0],I J (code:Int)]) (by simp[results,results352,go_sem,D,G,H,L]) rfl ⟨by rw[HP];rfl,?_⟩;first | exact C.below | exact Ep C.below _ _ _ _
 | inr xs =>
   have mO:=Fm.WO hdi;rw[hdi] at HD hP;have hP:=hP;go_enter func352,ntmps352;go_wp2_with fail
   refine HD.mono ?_;rintro e B ⟨word,r,s,a,code,rfl,⟨rfl,hps⟩,sj,hb1⟩;subst hps;obtain⟨m,u⟩:∃m,r.length=m:=⟨_,rfl⟩;rw[u] at sj;rw[u];have hn8:m<=8:=by rw[<-u,<-rH];exact mO.1
   have hvz:∀p∈r,p.2.size<=2000:=fun p hp=>by
    have:=mO.2 (p.1.data.toList,p.2.data.toList) (aN.2 ⟨p,hp,rfl⟩);have h2:=this;rw[Ch.iK] at h2;omega
   have hbM:Below B.heap.size B (B.alloc (K #[V word,Z s m a] 206)):=(eY _ _).alloc (aM _) _;have C:=(hR0.stay hb1).stay hbM;have hM1:=eX B (K #[V word,Z s m a] 206);have hV1:=sj.qE.stay hbM;have UL:=zC word r ⟨#[110,97,109,101]⟩ s a m _ hV1 u (by omega) (fun p hp=>by have:=hvz p hp;omega);have JB:∀W,Below (B.alloc (K #[V word,Z s m a] 206)).heap.size (B.alloc (K #[V word,Z s m a] 206)) W->Calls prog 355 #[.agg #[V word,Z s m a]] W fun e w'=>e=Y (Fm.vY (Fm.file (lD r)))∧Below W.heap.size W w':=fun W hW=>IW word r s a m W (hV1.stay hW) u (by omega) (fun p hp=>by have:=hvz p hp;omega);have HR1:=C;have Xk:=H9 hM1;have HP:=H9 hP;have HVz:=H9 hvz
   generalize hW1:(B.alloc (K #[V word,Z s m a] 206))=W1 at *;have m0:=eZ W1 _ 0 _ _ _ Xk.o;have m1:W1.cell? ⟨B.heap.size,1,U⟩=M (Z s m a):=eZ W1 _ 1 _ _ _ Xk.o;cases N:kR ⟨#[110,97,109,101]⟩ r with
   | none =>
     have g1:Fm.get Fm.JZ (lD r)=U:=Oe N;rw[N] at UL;have i:Fm.qH d t=.inl 6:=by rw[HP];unfold Fm.partOf;rw[g1]
     go_wp2_with fail
     refine UL.mono ?_;rintro e q ⟨rfl,b⟩;have hR3:=C.stay b;obtain⟨D,G,H,L,f0,f1,f2,f3⟩:=hR3.cells;go_wp2;refine fI (v:=.tuple #[.agg #[V ⟨#[]⟩,V ⟨#[]⟩,V ⟨#[]⟩,Z U 0 0],I J 6]) (by simp[results,results352,go_sem,D,G,H,L]) rfl ⟨by rw[i];rfl,?_⟩;first | exact hR3.below | exact Ep hR3.below _ _ _ _
   | some x =>
     obtain⟨g1,_⟩:=IV N;have g1:Fm.get Fm.JZ (lD r)=M x.data.toList:=g1;rw[N] at UL;cases S:Fm.file (lD r) with
     | none =>
       rw[S] at JB;have i:Fm.qH d t=.inl 5:=by rw[HP];unfold Fm.partOf;rw[g1,S]
       go_wp2_with fail
       refine UL.mono ?_;rintro e q ⟨rfl,b⟩;have T:=qO Xk.o b;have n0:=eZ q _ 0 _ _ _ T;have n1:=eZ q _ 1 _ _ _ T;go_wp2_with fail
       refine(JB q b).mono ?_;rintro e w4 ⟨rfl,j⟩;unfold Fm.vY;have hR4:=(C.stay b).stay j;obtain⟨D,G,H,L,f0,f1,f2,f3⟩:=hR4.cells;have g:=H9 hR4;go_wp2;refine fI (v:=.tuple #[.agg #[V ⟨#[]⟩,V ⟨#[]⟩,V ⟨#[]⟩,Z U 0 0],I J 5]) (by simp[results,results352,go_sem,D,G,H,L]) rfl ⟨by rw[i];rfl,?_⟩;first | exact g.o.below | exact Ep g.o.below _ _ _ _
     | some f =>
       rw[S] at JB;have y:Fm.qH d t=if t.2=9 then .inl 9 else .inr ⟨x.data.toList,f,t.1⟩:=by rw[HP];unfold Fm.partOf;rw[g1,S]
       by_cases h9:t.2=9
       . rw[if_pos h9] at y;have i:=H9 y;have t9:((t.2:Int)==9)=true:=by rw[h9];rfl
         have HT9:=H9 h9;clear y h9;go_wp2_with fail
         refine UL.mono ?_;rintro e q ⟨rfl,b⟩;have T:=qO Xk.o b;have n0:=eZ q _ 0 _ _ _ T;have n1:=eZ q _ 1 _ _ _ T;clear  T m0 m1 hW1;go_wp2_with fail
         refine(JB q b).mono ?_;rintro e w4 ⟨rfl,j⟩;unfold Fm.vY;have g:=(C.stay b).stay j;clear j n0 n1;go_wp2_with fail
         refine(z w4 g.below).mono ?_;rintro e w5 ⟨rfl,hb5⟩;have k:=g.stay hb5;obtain⟨D,G,H,L,f0,f1,f2,f3⟩:=k.cells;go_wp2;refine fI (v:=.tuple #[.agg #[V ⟨#[]⟩,V ⟨#[]⟩,V ⟨#[]⟩,Z U 0 0],I J (t.2:Int)]) (by simp[results,results352,go_sem,D,G,H,L]) rfl ⟨by rw[i,HT9.o];rfl,?_⟩;first | exact k.below | exact Ep k.below _ _ _ _
       . rw[if_neg h9] at y;have i:=H9 y;have t9:((t.2:Int)==9)=F:=by rw[aR];omega
         go_wp2_with fail
         refine UL.mono ?_;rintro e q ⟨rfl,b⟩;have T:=qO Xk.o b;have n0:=eZ q _ 0 _ _ _ T;have n1:=eZ q _ 1 _ _ _ T;go_wp2_with fail
         refine(JB q b).mono ?_;rintro e w4 ⟨rfl,j⟩;unfold Fm.vY;have g:=(C.stay b).stay j;go_wp2_with fail
         refine(z w4 g.below).mono ?_;rintro e w5 ⟨rfl,hb5⟩;have k:=g.stay hb5;obtain⟨D,G,H,L,f0,f1,f2,f3⟩:=k.cells;go_wp2;refine fI (v:=.tuple #[.agg #[V x,V ⟨f.toArray⟩,V ⟨t.1.toArray⟩,Z U 0 0],I J 0]) (by simp[results,results352,go_sem,D,G,H,L]) rfl ⟨by rw[i];unfold Fm.Lv;simp only[],?_⟩;exact Ep k.below _ _ _ _
theorem Xm (l:au)(ao:ak)(cap n:Nat)(w:X)(a:ji w ao cap n (gG l))(b:l.length=n)(c:n<=1000)(d:∀p∈l,p.1.size<=2000∧p.2.size<=2000):
 Calls prog 352 #[Z ao n cap] w fun e w'=>e=Y (Fm.Lv (Fm.part (Rq.EZ l)))∧Below w.heap.size w w':=by
 have h:=Zz l ao cap n w a b c d;rw[WQ qQ ⟨Fm.Vs.toArray⟩ l (by decide) (by decide),WQ bType ⟨Fm.nType.toArray⟩ l (by decide) (by decide)] at h;exact h
end Go.Proofs.YthhklgjjnaeaoaaGreatDoor