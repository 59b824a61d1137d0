/- Small texts, one behind the other: PmParse, PmGet, FsE, FsF, FsG. -/
import Derived.Test.YtjmndjmhjleabaaGreatDoorPk29
import Derived.Test.YtjmndjmhjleabaaGreatDoorPk26
import Derived.Test.YtjmndjmhjleabaaGreatDoorPk27
import Derived.Test.YtjmndjmhjleabaaGreatDoorPk31
open Go.Value renaming int->I,string->V,slice->Z
open Go.IntKind renaming i64->J
open Go.Obj renaming cells->K
open Go.Ending renaming returned->Y
open Option renaming none->U,some->M
open Bool renaming false->F
open Go renaming World->X
set_option maxHeartbeats 4000000
set_option maxRecDepth 100000
open Go.Proofs.Tryz
namespace Go.Proofs.YtjmndjmhjleabaaGreatDoor
open Go.RowKit
theorem Sq (s:av)(w:X)(k:s.size<=100000)(a:Ch.iw s.data.toList=F):
 Calls prog 168 #[V s] w fun e w'=>uT w (Pm.kr s.data.toList) e w':=by
 have f:Hid (Pm.kr s.data.toList=.inl 3):=by unfold Hid Pm.kr;rw[if_pos a]
 have b:=H9 (kT s (w.alloc (K #[V ⟨#[]⟩,Z U 0 0] 172)) (by unfold maxLen;omega));rw[a] at b;have d:Hid (Below w.heap.size w (w.alloc (K #[V ⟨#[]⟩,Z U 0 0] 172))):=(fI _ _).alloc (aL _) _;have g:(w.alloc (K #[V ⟨#[]⟩,Z U 0 0] 172)).cell? ⟨w.heap.size,0,U⟩=M (V ⟨#[]⟩):=World.cell?_alloc_mark w _ _ _ 0;have i:(w.alloc (K #[V ⟨#[]⟩,Z U 0 0] 172)).cell? ⟨w.heap.size,1,U⟩=M (Z U 0 0):=World.cell?_alloc_mark w _ _ _ 1;clear a;go_enter func168,ntmps168;go_wp2_with fail
 refine b.o.mono ?_;rintro e l ⟨rfl,j⟩;subst j;go_wp2;refine gq (v:=.tuple #[.agg #[V ⟨#[]⟩,Z U 0 0],I J 3]) (by simp[results,results168,go_sem,g,i]) rfl (uT.bad (c:=3) f.o ?_);first | exact d.o | exact(d.o.setCell (aL _) _).setCell (aL _) _
theorem Oh (s:av)(w:X)(hs:s.size<=100000)(D:Ch.iw s.data.toList=true):
 Calls prog 168 #[V s] w fun e w'=>uT w (Pm.kr s.data.toList) e w':=by
 have n:=Pm.Zp s.data.toList D;have G:=H9 (kT s (w.alloc (K #[V ⟨#[]⟩,Z U 0 0] 172)) (by unfold maxLen;omega));rw[D] at G;have UK:∀(fn:Fn) (first d:Array Value) (w:X),(Instr.makeFunc fn first d).run prog w=.ok (.func fn first d) w:=fun _ _ _ _=>rfl;have l:Below w.heap.size w (w.alloc (K #[V ⟨#[]⟩,Z U 0 0] 172)):=(fI _ _).alloc (aL _) _;have H:(w.alloc (K #[V ⟨#[]⟩,Z U 0 0] 172)).heap[w.heap.size]? = M (K #[V ⟨#[]⟩,Z U 0 0] 172 (0,0)):=fH w _;have f:Below (w.heap.size+1) (w.alloc (K #[V ⟨#[]⟩,Z U 0 0] 172)) ((w.alloc (K #[V ⟨#[]⟩,Z U 0 0] 172)).alloc (K #[V s,I J 0] 248)):=(fI _ _).alloc (by simp) _;have L:(w.alloc (K #[V ⟨#[]⟩,Z U 0 0] 172)).heap.size=w.heap.size+1:=by simp
 have g:jd ((w.alloc (K #[V ⟨#[]⟩,Z U 0 0] 172)).alloc (K #[V s,I J 0] 248)) (w.heap.size+1) s 0:=by
  have:=fH (w.alloc (K #[V ⟨#[]⟩,Z U 0 0] 172)) (K #[V s,I J 0] 248);rw[L] at this;exact this
 have i:((w.alloc (K #[V ⟨#[]⟩,Z U 0 0] 172)).alloc (K #[V s,I J 0] 248)).heap[w.heap.size]? = M (K #[V ⟨#[]⟩,Z U 0 0] 172 (0,0)):=(f.block _ (by omega)).trans H;have HB:Hid (Below w.heap.size w ((w.alloc (K #[V ⟨#[]⟩,Z U 0 0] 172)).alloc (K #[V s,I J 0] 248))):=l.trans (f.mono (by omega));have m:((w.alloc (K #[V ⟨#[]⟩,Z U 0 0] 172)).alloc (K #[V s,I J 0] 248)).heap.size=w.heap.size+2:=by simp
 have HR:=H9 i;clear D;cases p:Pm.Ew s.data.toList 0 with
 | inl c =>
   rw[p] at n;have N:=H9 n;have y:=H9 (Sn s (w.heap.size+1) w.heap.size _ g hs c p);clear n p l H f L g i m;go_enter func168,ntmps168;go_wp2_with fail
   refine G.o.mono ?_;rintro e w1 ⟨rfl,O⟩;subst O;go_wp2_with fail
   refine y.o.mono ?_;rintro e b ⟨rfl,q⟩;have j:=H9 (q.row HR.o (fun e=>by unfold only at e;omega));have r:=H9 (HB.o.trans (q.below (B:=w.heap.size) (fun k e=>by unfold only at e;omega) (by simp;omega)));clear q;have P:b.cell? ⟨w.heap.size,0,U⟩=M (V ⟨#[]⟩):=fJ b _ 0 _ _ _ j.out;have T:b.cell? ⟨w.heap.size,1,U⟩=M (Z U 0 0):=fJ b _ 1 _ _ _ j.out;have f0:b.frozen? ⟨w.heap.size,0,U⟩=F:=fK b _ 0 _ _ j.out;have f1:b.frozen? ⟨w.heap.size,1,U⟩=F:=fK b _ 1 _ _ j.out;go_wp2;refine gq (v:=.tuple #[.agg #[V ⟨#[]⟩,Z U 0 0],I J (c:Int)]) (by simp[results,results168,go_sem,P,T]) rfl (uT.bad (c:=c) N.o ?_);first | exact r.out | exact(r.out.setCell (aL _) _).setCell (aL _) _
 | inr x =>
   rw[p] at n;have N:=H9 n;have y:=H9 (Og s (w.heap.size+1) w.heap.size _ g i hs x p);rw[m] at y;clear n p l H f L g i m;go_enter func168,ntmps168;go_wp2_with fail
   refine G.o.mono ?_;rintro e w1 ⟨rfl,O⟩;subst O;go_wp2_with fail
   refine y.o.mono ?_;rintro e b ⟨rfl,⟨z,C,W,d,hd,t,u,ho⟩,q⟩;have j:=H9 hd;have r:=H9 (HB.o.trans (q.below (B:=w.heap.size) (fun k e=>by unfold both at e;omega) (by simp;omega)));have HO:=H9 ho;have HE:Hid (Ww (.inr x) z C 0):=⟨rfl,t,u⟩;clear q ho t u hd;have P:b.cell? ⟨w.heap.size,0,U⟩=M (V z):=fJ b _ 0 _ _ _ j.out;have T:b.cell? ⟨w.heap.size,1,U⟩=M (Z W C.length d):=fJ b _ 1 _ _ _ j.out;have f0:b.frozen? ⟨w.heap.size,0,U⟩=F:=fK b _ 0 _ _ j.out;have f1:b.frozen? ⟨w.heap.size,1,U⟩=F:=fK b _ 1 _ _ j.out;go_wp2;refine gq (v:=.tuple #[.agg #[V z,Z W C.length d],I J 0]) (by simp[results,results168,go_sem,P,T]) rfl ⟨z,C,W,d,0,rfl,by rw[N.o];exact HE.o,?_,?_⟩
   . first
      | exact HO.o.mono (by omega)
      | (refine gU.turns (S:=fun k=>k=w.heap.size) (gU.turns (S:=fun k=>k=w.heap.size) (HO.o.mono (by omega)) (Turns.setCell _ _ _ _ rfl) (fun a e e2=>?_)) (Turns.setCell _ _ _ _ rfl) (fun a e e2=>?_) <;> (have:=(HO.o.block a e).1;omega))
   . first | exact r.out | exact(r.out.setCell (aL _) _).setCell (aL _) _
theorem yS (s:av)(w:X)(a:s.size<=100000):
 Calls prog 168 #[V s] w fun e w'=>uT w (Pm.kr s.data.toList) e w':=by
 cases b:Ch.iw s.data.toList
 . exact Sq s w a b
 . exact Oh s w a b
theorem zY (word:av)(l:ak)(a:av)(ao:aj)(cap n:Nat)(w:X)(g:jm w ao cap n (gT l))(x:l.length=n)(y:n<=1000000)(q:∀p∈l,p.2.size<=1000000):
 Calls prog 194 #[.agg #[V word,Z ao n cap],V a] w fun e w'=>e=Y (.tuple #[V ((lg a l).getD ⟨#[]⟩),.bool (lg a l).isSome])∧Below w.heap.size w w':=by
 subst x;have z:=H9 g;have B:=H9 q;have c:=H9 (BoxM.start w word ao l.length cap);have C:=H9 (xM l a ao cap l.length _ (g.stay c.o.below) rfl y);clear g q;go_enter func194,ntmps194;go_wp2_with fail
 refine C.o.mono ?_;rintro e D ⟨r,rfl,G,s⟩;have b:=H9 (c.o.keep s);clear s;rcases G with ⟨rfl,d⟩ | ⟨k,i,rfl,t,u⟩
 . have j:=H9 (LV d);clear d;go_wp2;go_ret2;exact⟨by rw[j.o];rfl,b.o.below⟩
 . have j:=H9 (SN i u t);have S:decide ((k:Int)<0)=F:=by rw[bP];omega
   obtain⟨H,L,rfl,f⟩:=(z.o.stay b.o.below).lit (by rw[mV];omega);have N:D.cell? ⟨H,L+k*2+1,U⟩=M (V l[k].2):=by
    have:=f _ _ (nX l k i).2;rwa[<-bK] at this
   have T:=b.o.cells.2;have O:(k:Int)<l.length:=by omega
   have P:=H9 (fun W=>lK l[k].2 W (B.o _ (aB i)));clear f t u;generalize l[k]=p at *;go_wp2_with fail
   refine(P.o _).mono ?_;rintro e w2 ⟨rfl,v⟩;have m:=H9 (b.o.keep v);clear v;go_wp2;go_ret2;exact⟨by rw[j.o];rfl,m.o.below⟩
theorem zZ (a:av):∀b:ak,(lg a b).map (fun x=>x.data.toList)=Fm.get a.data.toList (mh b)
 | []=>rfl
 | p :: t => by
   have c:=zZ a t;unfold Fm.get mh at *;rw[List.map_cons,List.find?_cons];unfold lg;by_cases h:p.1.data.toList=a.data.toList
   . rw[if_pos h];have:((p.1.data.toList,p.2.data.toList).1==a.data.toList)=true:=by simpa using h
     rw[this];rfl
   . rw[if_neg h];have:((p.1.data.toList,p.2.data.toList).1==a.data.toList)=F:=by simpa using h
     rw[this];exact c
theorem Jw {a:av}{b:ak}{x:av}(h:lg a b=M x):Fm.get a.data.toList (mh b)=M x.data.toList∧∃p∈b,p.2=x:=by
 refine⟨by rw[<-zZ,h];rfl,?_⟩;induction b with
 | nil=>cases h
 | cons p t c =>
   unfold lg at h;split at h
   . injection h with h;exact⟨p,cB ..,h⟩
   . obtain⟨q,d,e⟩:=c h;exact⟨q,cK _ d,e⟩
theorem OC {a:av}{b:ak}(h:lg a b=U):Fm.get a.data.toList (mh b)=U:=by rw[<-zZ,h];rfl
theorem WO (b a:av)(l:ak)(h:Ch.lower b.data.toList=a.data.toList)(c:Ch.lower a.data.toList=a.data.toList):Fd.one (Fd.vals b l)=Fm.one (Rq.vals (Rq.V4 l) a.data.toList):=by
 rw[Rq.wz l a c,Fd.kZ b a l (h.trans c.symm)];unfold Fd.one Fm.one;match Fd.vals a l with
 | []=>rfl
 | [v]=>rfl
 | _::_::_=>rfl
theorem rY {w W a:X}{b:Array Value}{t:Nat}(h:W.heap[w.heap.size]? = M (K b t (0,0)))(c:Below W.heap.size W a):a.heap[w.heap.size]? = M (K b t (0,0)):=(c.block _ (aK.1 h).1).trans h
theorem Jy (word:av)(c:ak)(ao:aj)(cap n:Nat)(w:X)(L:jm w ao cap n (gT c))(T:c.length=n)(hN:n<=1000)(H:∀p∈c,p.2.size<=100000):
 Calls prog 308 #[.agg #[V word,Z ao n cap]] w fun e w'=>e=Y (Fm.wO (Fm.file (mh c)))∧Below w.heap.size w w':=by
 have j:Below w.heap.size w (w.alloc (K #[V word,Z ao n cap] 172)):=(fI _ _).alloc (aL _) _;have z:=H9 (zY word c ⟨#[102,105,108,101,110,97,109,101,42]⟩ ao cap n _ (L.stay j) T (by omega) (fun p k=>by have:=H p k;omega));have l:Hid (∀W,Below (w.alloc (K #[V word,Z ao n cap] 172)).heap.size (w.alloc (K #[V word,Z ao n cap] 172)) W->Calls prog 194 #[.agg #[V word,Z ao n cap],V ⟨#[102,105,108,101,110,97,109,101]⟩] W fun e w'=>e=Y (.tuple #[V ((lg ⟨#[102,105,108,101,110,97,109,101]⟩ c).getD ⟨#[]⟩),.bool (lg ⟨#[102,105,108,101,110,97,109,101]⟩ c).isSome])∧Below W.heap.size W w'):=fun W hW=>zY word c _ ao cap n W ((L.stay j).stay hW) T (by omega) (fun p k=>by have:=H p k;omega);have m:=H9 j;have HZ:=H9 H;have J6:=H9 (fH w (K #[V word,Z ao n cap] 172));clear L H j;cases B:lg ⟨#[102,105,108,101,110,97,109,101,42]⟩ c with
 | some x =>
   obtain⟨t,p,k,rfl⟩:=Jw B;have N:=HZ.o p k;rw[B] at z;have r:Fm.file (mh c)=(Fm.coded p.2.data.toList).map Fm.safe:=by
    unfold Fm.file;have:Fm.get Fm.Jb (mh c)=M p.2.data.toList:=t;rw[this]
   have s:=H9 r;have q:=H9 (fun W=>OB p.2 W (by omega));clear B t k r;cases D:Fm.coded p.2.data.toList with
   | none =>
     rw[D] at q s;clear D;go_enter func308,ntmps308;go_wp2_with fail
     refine z.o.mono ?_;rintro e f ⟨rfl,a⟩;go_wp2_with fail
     refine(q.o _).mono ?_;rintro e O ⟨rfl,b⟩;unfold Fm.wO;have u:=H9 (then_ (then_ m.o a) b);clear a b;go_wp2;go_ret2;exact⟨by rw[s.o];rfl,u.o⟩
   | some y =>
     have hy:=Fm.SL D;rw[Ch.iC] at hy;rw[D] at q s;have v:=H9 (fun W=>LJ ⟨y.toArray⟩ W (by show y.toArray.size<=_;rw[bL];omega));clear D;go_enter func308,ntmps308;go_wp2_with fail
     refine z.o.mono ?_;rintro e f ⟨rfl,a⟩;go_wp2_with fail
     refine(q.o _).mono ?_;rintro e O ⟨rfl,b⟩;unfold Fm.wO;go_wp2_with fail
     refine(v.o _).mono ?_;rintro e w3 ⟨rfl,g⟩;have u:=H9 (then_ (then_ (then_ m.o a) b) g);clear a b g;go_wp2;go_ret2;exact⟨by rw[s.o];rfl,u.o⟩
 | none =>
   have t:=OC B;rw[B] at z;clear B;cases C:lg ⟨#[102,105,108,101,110,97,109,101]⟩ c with
   | some x =>
     obtain⟨G,p,k,rfl⟩:=Jw C;have N:=HZ.o p k;rw[C] at l;have r:Fm.file (mh c)=M (Fm.safe p.2.data.toList):=by
      unfold Fm.file;have P:Fm.get Fm.Jb (mh c)=U:=t;have S:Fm.get Fm.Nr (mh c)=M p.2.data.toList:=G;rw[P,S]
     have s:=H9 r;have v:=H9 (fun W=>LJ p.2 W (by omega));clear C t G k r;go_enter func308,ntmps308;go_wp2_with fail
     refine z.o.mono ?_;rintro e f ⟨rfl,a⟩;have d:=rY J6.o a;have c0:f.cell? ⟨w.heap.size,0,U⟩=M (V word):=fJ f _ 0 _ _ _ d;have c1:f.cell? ⟨w.heap.size,1,U⟩=M (Z ao n cap):=fJ f _ 1 _ _ _ d;have i:=H9 a;clear a d;go_wp2_with fail
     refine(l.o _ i.o).mono ?_;rintro e O ⟨rfl,b⟩;go_wp2_with fail
     refine(v.o _).mono ?_;rintro e w3 ⟨rfl,g⟩;have u:=H9 (then_ (then_ (then_ m.o i.o) b) g);clear b g;go_wp2;go_ret2;exact⟨by rw[s.o];rfl,u.o⟩
   | none =>
     have G:=OC C;rw[C] at l;have r:Fm.file (mh c)=M []:=by
      unfold Fm.file;have P:Fm.get Fm.Jb (mh c)=U:=t;have S:Fm.get Fm.Nr (mh c)=U:=G;rw[P,S]
     have s:=H9 r;clear C t G r;go_enter func308,ntmps308;go_wp2_with fail
     refine z.o.mono ?_;rintro e f ⟨rfl,a⟩;have d:=rY J6.o a;have c0:f.cell? ⟨w.heap.size,0,U⟩=M (V word):=fJ f _ 0 _ _ _ d;have c1:f.cell? ⟨w.heap.size,1,U⟩=M (Z ao n cap):=fJ f _ 1 _ _ _ d;have i:=H9 a;clear a d;go_wp2_with fail
     refine(l.o _ i.o).mono ?_;rintro e O ⟨rfl,b⟩;have u:=H9 (then_ (then_ m.o i.o) b);clear b;go_wp2;go_ret2;exact⟨by rw[s.o];rfl,u.o⟩
def acs (m:Nat ⊕ List Pm.tK)(ps:ak)(code:Nat):Prop :=
 match m with
 | .inl c=>code=c∧c≠0
 | .inr x=>code=0∧mh ps=x
def xV (w:X)(m:Nat ⊕ List Pm.tK)(e:Ending)(w':X):Prop :=
 ∃word ps ao cap,∃code:Nat,e=Y (.tuple #[.agg #[V word,Z ao ps.length cap],I J (code:Int)])∧acs m ps code∧gU w' w.heap.size 202 2 ao cap ps.length (gT ps)∧Below w.heap.size w w'
theorem xV.bad {w w':X}{m:Nat ⊕ List Pm.tK}{c:Nat}(a:m=.inl c)(b:c≠0)(d:Below w.heap.size w w'):xV w m (Y (.tuple #[.agg #[V ⟨#[]⟩,Z U 0 0],I J (c:Int)])) w':=by
 subst a;exact⟨⟨#[]⟩,[],U,0,c,rfl,⟨rfl,b⟩,gU.nil _ _ _ _,d⟩
def su:av:=⟨#[67,111,110,116,101,110,116,45,68,105,115,112,111,115,105,116,105,111,110]⟩
def bType:av:=⟨#[67,111,110,116,101,110,116,45,84,121,112,101]⟩
structure TF (w W:X):Prop where
 row:W.heap[w.heap.size]? = M (K #[V ⟨#[]⟩,Z U 0 0] 172 (0,0))
 below:Below w.heap.size w W
theorem TF.stay {w W a:X}(h:TF w W)(b:Below W.heap.size W a):TF w a:=⟨rY h.row b,then_ h.below b⟩
theorem TF.cells {w W:X}(h:TF w W):W.cell? ⟨w.heap.size,0,U⟩=M (V ⟨#[]⟩)∧W.cell? ⟨w.heap.size,1,U⟩=M (Z U 0 0)∧W.frozen? ⟨w.heap.size,0,U⟩=F∧W.frozen? ⟨w.heap.size,1,U⟩=F :=
 ⟨fJ W _ 0 _ _ _ h.row,fJ W _ 1 _ _ _ h.row,fK W _ 0 _ _ h.row,fK W _ 1 _ _ h.row⟩
theorem CO (l:ak)(ao:aj)(cap n:Nat)(w:X)(hl:jm w ao cap n (gT l))(hn:l.length=n)(hN:n<=1000)(hz:∀p∈l,p.1.size<=2000∧p.2.size<=2000):
 Calls prog 307 #[Z ao n cap] w fun e w'=>xV w (Fm.zX (Fd.one (Fd.vals su l))) e w':=by
 have N:TF w (w.alloc (K #[V ⟨#[]⟩,Z U 0 0] 172)):=⟨fH w _,(fI _ _).alloc (aL _) _⟩;have C:=H9 (ug l su ao cap n _ (hl.stay ((fI _ _).alloc (aL _) (K #[V ⟨#[]⟩,Z U 0 0] 172))) hn (by omega) hz (by decide));have T:=H9 N;have hd2:(Fd.one (Fd.vals su l)).1.length<=2000:=by
  have t:∀v∈Fd.vals su l,v.size<=2000:=fun v hv=>by
   obtain⟨p,hp,rfl⟩:=Fd.wB hv;exact(hz p hp).2
  unfold Fd.one;split
  . exact ay _
  . rename_i v hv;have:=t v (by rw[hv];simp);rw[Ch.iC];exact this
  . exact ay _
 unfold rP at C;unfold su at C;clear hl hz N;generalize hd:Fd.one (Fd.vals su l)=d at *;have O:Fd.one (Fd.vals ⟨#[67,111,110,116,101,110,116,45,68,105,115,112,111,115,105,116,105,111,110]⟩ l)=d:=hd;rw[O] at C;clear hd O;by_cases u:d.2=0
 . have t0:((d.2:Int) != 0)=F:=by rw[u];rfl
   have D:=H9 (fun W=>yS ⟨d.1.toArray⟩ W (by show d.1.toArray.size<=_;rw[bL];omega));have P:(⟨d.1.toArray⟩:av).data.toList=d.1:=rfl;rw[P] at D;generalize (⟨d.1.toArray⟩:av)=vt at *;clear P;cases t:Pm.kr d.1 with
   | inl c =>
     have hc:=Fm.DT t;have G:=H9 (Fm.WK u t);rw[t] at D;have tc:((c:Int) != 0)=true:=by rw[cO];omega
     have HC:=H9 hc;clear t hc u;go_enter func307,ntmps307;go_wp2_with fail
     refine C.o.mono ?_;rintro e z ⟨rfl,f⟩;have i:=H9 (T.o.stay f);clear f;go_wp2_with fail
     refine(D.o z).mono ?_;rintro e w2 ⟨word,B,y,b,code,rfl,⟨rfl,m,s⟩,q,j⟩;have g:=(i.o.stay j).stay ((fI _ _).alloc (aL _) (K #[V word,Z y B.length b] 172));obtain⟨H,L,f0,f1⟩:=g.cells;have r:=H9 g;clear j g m s q;go_wp2;refine gq (v:=.tuple #[.agg #[V ⟨#[]⟩,Z U 0 0],I J (code:Int)]) (by simp[results,results307,go_sem,H,L]) rfl (xV.bad G.o HC.o ?_);first | exact r.o.below | exact(r.o.below.setCell (aL _) _).setCell (aL _) _
   | inr x =>
     by_cases hx:x.1=Fm.Hg
     . have G:=H9 (Fm.ZA u t hx);rw[t] at D;clear t u;go_enter func307,ntmps307;go_wp2_with fail
       refine C.o.mono ?_;rintro e z ⟨rfl,f⟩;have i:=H9 (T.o.stay f);clear f;go_wp2_with fail
       refine(D.o z).mono ?_;rintro e w2 ⟨word,B,y,b,code,rfl,⟨rfl,m,s⟩,q,j⟩;have g:=(i.o.stay j).stay ((fI _ _).alloc (aL _) (K #[V word,Z y B.length b] 172));obtain⟨H,L,f0,f1⟩:=g.cells;have r:=H9 g;have tw:(word.toList==[102,111,114,109,45,100,97,116,97])=true:=by
        rw[aS,Lib.toList_data,m,hx];rfl
       have J7:=H9 s;have hz1:=i.o.below.size;have hgt:w.heap.size<z.heap.size:=(aK.1 i.o.row).1;have oC:=H9 ((q.mono (show w.heap.size<=z.heap.size from hz1)).stay ((fI _ _).alloc (aL _) (K #[V word,Z y B.length b] 172)));have S:Hid (∀a,y=M a->a.block≠w.heap.size):=fun a e=>by have:=(q.block a e).1;omega
       clear j g m s q;go_wp2;refine gq (v:=.tuple #[.agg #[V word,Z y B.length b],I J 0]) (by simp[results,results307,go_sem,H,L]) rfl ⟨word,B,y,b,0,rfl,?_,?_,?_⟩
       . rw[G.o];exact⟨rfl,J7.o⟩
       . exact((oC.o.turns (Turns.setCell (fun k=>k=w.heap.size) _ _ _ rfl) (fun a e=>S.o a e)).turns (Turns.setCell (fun k=>k=w.heap.size) _ _ _ rfl) (fun a e=>S.o a e))
       . exact(r.o.below.setCell (aL _) _).setCell (aL _) _
     . have G:=H9 (Fm.SK u t hx);rw[t] at D;clear t u;go_enter func307,ntmps307;go_wp2_with fail
       refine C.o.mono ?_;rintro e z ⟨rfl,f⟩;have i:=H9 (T.o.stay f);clear f;go_wp2_with fail
       refine(D.o z).mono ?_;rintro e w2 ⟨word,B,y,b,code,rfl,⟨rfl,m,s⟩,q,j⟩;have g:=(i.o.stay j).stay ((fI _ _).alloc (aL _) (K #[V word,Z y B.length b] 172));obtain⟨H,L,f0,f1⟩:=g.cells;have r:=H9 g;have tw:(word.toList==[102,111,114,109,45,100,97,116,97])=F:=by
        rw[aR,Lib.toList_data,m];exact hx
       clear j g m s q;go_wp2;refine gq (v:=.tuple #[.agg #[V ⟨#[]⟩,Z U 0 0],I J 11]) (by simp[results,results307,go_sem,H,L]) rfl (xV.bad (c:=11) G.o (by decide) ?_);first | exact r.o.below | exact(r.o.below.setCell (aL _) _).setCell (aL _) _
 . have t0:((d.2:Int) != 0)=true:=by rw[cO];omega
   have G:Hid (Fm.zX d=.inl d.2):=by unfold Hid Fm.zX;rw[if_pos u]
   have H0:=H9 u;clear u;go_enter func307,ntmps307;go_wp2_with fail
   refine C.o.mono ?_;rintro e z ⟨rfl,f⟩;have uz:=T.o.stay f;obtain⟨H,L,f0,f1⟩:=uz.cells;have i:=H9 uz;clear f uz;go_wp2;refine gq (v:=.tuple #[.agg #[V ⟨#[]⟩,Z U 0 0],I J (d.2:Int)]) (by simp[results,results307,go_sem,H,L]) rfl (xV.bad G.o H0.o ?_);first | exact i.o.below | exact(i.o.below.setCell (aL _) _).setCell (aL _) _
def Fm.Mk:Nat ⊕ Fm.YT->Value
 | .inl c=>.tuple #[.agg #[V ⟨#[]⟩,V ⟨#[]⟩,V ⟨#[]⟩,Z U 0 0],I J (c:Int)]
 | .inr p=>.tuple #[.agg #[V ⟨p.name.toArray⟩,V ⟨p.file.toArray⟩,V ⟨p.type.toArray⟩,Z U 0 0],I J 0]
structure TH (w W:X):Prop where
 row:W.heap[w.heap.size]? = M (K #[V ⟨#[]⟩,V ⟨#[]⟩,V ⟨#[]⟩,Z U 0 0] 70 (0,0))
 below:Below w.heap.size w W
theorem TH.stay {w W a:X}(h:TH w W)(b:Below W.heap.size W a):TH w a:=⟨rY h.row b,then_ h.below b⟩
theorem TH.cells {w W:X}(h:TH w W):W.cell? ⟨w.heap.size,0,U⟩=M (V ⟨#[]⟩)∧W.cell? ⟨w.heap.size,1,U⟩=M (V ⟨#[]⟩)∧W.cell? ⟨w.heap.size,2,U⟩=M (V ⟨#[]⟩)∧W.cell? ⟨w.heap.size,3,U⟩=M (Z U 0 0)∧W.frozen? ⟨w.heap.size,0,U⟩=F∧W.frozen? ⟨w.heap.size,1,U⟩=F∧W.frozen? ⟨w.heap.size,2,U⟩=F∧W.frozen? ⟨w.heap.size,3,U⟩=F :=
 ⟨fJ W _ 0 _ _ _ h.row,fJ W _ 1 _ _ _ h.row,fJ W _ 2 _ _ _ h.row,fJ W _ 3 _ _ _ h.row,fK W _ 0 _ _ h.row,fK W _ 1 _ _ h.row,fK W _ 2 _ _ h.row,fK W _ 3 _ _ h.row⟩
theorem ES {w W:X}(h:Below w.heap.size w W)(a b c d:Value):Below w.heap.size w ((((W.setCell ⟨w.heap.size,0,U⟩ a).setCell ⟨w.heap.size,1,U⟩ b).setCell ⟨w.heap.size,2,U⟩ c).setCell ⟨w.heap.size,3,U⟩ d) :=
 (((h.setCell (aL _) _).setCell (aL _) _).setCell (aL _) _).setCell (aL _) _
theorem ZM (l:ak)(ao:aj)(cap n:Nat)(w:X)(hl:jm w ao cap n (gT l))(hn:l.length=n)(hN:n<=1000)(hz:∀p∈l,p.1.size<=2000∧p.2.size<=2000):
 Calls prog 305 #[Z ao n cap] w fun e w'=>e=Y (Fm.Mk (Fm.qg (Fd.one (Fd.vals su l)) (Fd.one (Fd.vals bType l))))∧Below w.heap.size w w':=by
 have hR0:TH w (w.alloc (K #[V ⟨#[]⟩,V ⟨#[]⟩,V ⟨#[]⟩,Z U 0 0] 70)):=⟨fH w _,(fI _ _).alloc (aL _) _⟩;have HL:Hid (∀W,Below w.heap.size w W->jm W ao cap n (gT l)):=fun W hW=>hl.stay hW;have HD:=H9 (CO l ao cap n _ (HL.o _ hR0.below) hn hN hz);have q:Hid (∀W,Below w.heap.size w W->Calls prog 117 #[Z ao n cap,V bType] W fun e w'=>e=Y (rP (Fd.one (Fd.vals bType l)))∧Below W.heap.size W w'):=fun W hW=>ug l bType ao cap n W (HL.o W hW) hn (by omega) hz (by decide);have J6:=H9 hR0;have hd2:(Fd.one (Fd.vals su l)).1.length<=2000:=by
  have hm:∀v∈Fd.vals su l,v.size<=2000:=fun v hv=>by
   obtain⟨p,hp,rfl⟩:=Fd.wB hv;exact(hz p hp).2
  unfold Fd.one;split
  . exact ay _
  . rename_i v hv;have:=hm v (by rw[hv];simp);rw[Ch.iC];exact this
  . exact ay _
 unfold rP at q;clear hl hz hR0 HL;generalize Fd.one (Fd.vals su l)=d at *;generalize Fd.one (Fd.vals bType l)=t at *;have hP:=Fm.LQ d t;unfold bType at q;cases D:Fm.zX d with
 | inl c =>
   rw[D] at HD hP;have HP:Hid (Fm.qg d t=.inl c):=hP;clear D hP q;go_enter func305,ntmps305;go_wp2_with fail
   refine HD.o.mono ?_;rintro e m ⟨word,G,y,a,code,rfl,⟨rfl,hc⟩,qy,H⟩;have tc:((code:Int) != 0)=true:=by rw[cO];omega
   have uz:=(J6.o.stay H).stay ((fI _ _).alloc (aL _) (K #[V word,Z y G.length a] 172));obtain⟨O,P,S,T,f0,f1,f2,f3⟩:=uz.cells;have r:=H9 uz;clear H uz qy hc;go_wp2;refine gq (v:=.tuple #[.agg #[V ⟨#[]⟩,V ⟨#[]⟩,V ⟨#[]⟩,Z U 0 0],I J (code:Int)]) (by simp[results,results305,go_sem,O,P,S,T]) rfl ⟨by rw[HP.o];rfl,?_⟩;first | exact r.o.below | exact ES r.o.below _ _ _ _
 | inr xs =>
   have nN:=Fm.WL D;rw[D] at HD hP;have hP:Fm.qg d t=Fm.partOf xs t:=hP;clear D;go_enter func305,ntmps305;go_wp2_with fail
   refine HD.o.mono ?_;rintro e m ⟨word,G,y,a,code,rfl,⟨rfl,hps⟩,qy,H⟩;subst hps;obtain⟨s,z⟩:∃s,G.length=s:=⟨_,rfl⟩;rw[z] at qy;rw[z];have hn8:s<=8:=by rw[<-z,<-sS];exact nN.1
   have hvz:∀p∈G,p.2.size<=2000:=fun p hp=>by
    have:=nN.2 (p.1.data.toList,p.2.data.toList) (aM.2 ⟨p,hp,rfl⟩);have h2:p.2.data.toList.length<=d.1.length:=this;rw[Ch.iC] at h2;omega
   have ZB:Below m.heap.size m (m.alloc (K #[V word,Z y s a] 172)):=(fI _ _).alloc (aL _) _;have uz:=(J6.o.stay H).stay ZB;have hM1:=fH m (K #[V word,Z y s a] 172);have hV1:=qy.nP.stay ZB;have OY:=H9 (zY word G ⟨#[110,97,109,101]⟩ y a s _ hV1 z (by omega) (fun p hp=>by have:=hvz p hp;omega));have Oo:Hid (∀W,Below (m.alloc (K #[V word,Z y s a] 172)).heap.size (m.alloc (K #[V word,Z y s a] 172)) W->Calls prog 308 #[.agg #[V word,Z y s a]] W fun e w'=>e=Y (Fm.wO (Fm.file (mh G)))∧Below W.heap.size W w'):=fun W hW=>Jy word G y a s W (hV1.stay hW) z (by omega) (fun p hp=>by have:=hvz p hp;omega);have r:=H9 uz;have Xj:=H9 hM1;have HP:=H9 hP;have HVz:=H9 hvz
   clear H qy z hvz ZB uz hM1 hV1 hP nN HD;generalize hW1:(m.alloc (K #[V word,Z y s a] 172))=W1 at *;have m0:W1.cell? ⟨m.heap.size,0,U⟩=M (V word):=fJ W1 _ 0 _ _ _ Xj.o;have m1:W1.cell? ⟨m.heap.size,1,U⟩=M (Z y s a):=fJ W1 _ 1 _ _ _ Xj.o;cases u:lg ⟨#[110,97,109,101]⟩ G with
   | none =>
     have g1:Fm.get Fm.KF (mh G)=U:=OC u;rw[u] at OY;have ZN:Hid (Fm.qg d t=.inl 6):=by unfold Hid;rw[HP.o];unfold Fm.partOf;rw[g1]
     clear u g1 HP Oo q;go_wp2_with fail
     refine OY.o.mono ?_;rintro e g ⟨rfl,b⟩;have TI:=r.o.stay b;obtain⟨O,P,S,T,f0,f1,f2,f3⟩:=TI.cells;have HR3:=H9 TI;clear b TI hW1 m0 m1;go_wp2;refine gq (v:=.tuple #[.agg #[V ⟨#[]⟩,V ⟨#[]⟩,V ⟨#[]⟩,Z U 0 0],I J 6]) (by simp[results,results305,go_sem,O,P,S,T]) rfl ⟨by rw[ZN.o];rfl,?_⟩;first | exact HR3.o.below | exact ES HR3.o.below _ _ _ _
   | some x =>
     obtain⟨g1,_⟩:=Jw u;have g1:Fm.get Fm.KF (mh G)=M x.data.toList:=g1;rw[u] at OY;cases B:Fm.file (mh G) with
     | none =>
       rw[B] at Oo;have ZN:Hid (Fm.qg d t=.inl 5):=by unfold Hid;rw[HP.o];unfold Fm.partOf;rw[g1,B]
       clear u g1 HP q B;go_wp2_with fail
       refine OY.o.mono ?_;rintro e g ⟨rfl,b⟩;have i:=H9 b;have L:=rY Xj.o b;have n0:g.cell? ⟨m.heap.size,0,U⟩=M (V word):=fJ g _ 0 _ _ _ L;have n1:g.cell? ⟨m.heap.size,1,U⟩=M (Z y s a):=fJ g _ 1 _ _ _ L;clear b L m0 m1 hW1;go_wp2_with fail
       refine(Oo.o g i.o).mono ?_;rintro e w4 ⟨rfl,j⟩;unfold Fm.wO;have hR4:=(r.o.stay i.o).stay j;obtain⟨O,P,S,T,f0,f1,f2,f3⟩:=hR4.cells;have k:=H9 hR4;clear j hR4 n0 n1;go_wp2;refine gq (v:=.tuple #[.agg #[V ⟨#[]⟩,V ⟨#[]⟩,V ⟨#[]⟩,Z U 0 0],I J 5]) (by simp[results,results305,go_sem,O,P,S,T]) rfl ⟨by rw[ZN.o];rfl,?_⟩;first | exact k.o.below | exact ES k.o.below _ _ _ _
     | some f =>
       rw[B] at Oo;have C:Fm.qg d t=if t.2=9 then .inl 9 else .inr ⟨x.data.toList,f,t.1⟩:=by rw[HP.o];unfold Fm.partOf;rw[g1,B]
       clear u g1 HP B;by_cases h9:t.2=9
       . rw[if_pos h9] at C;have ZN:=H9 C;have t9:((t.2:Int)==9)=true:=by rw[h9];rfl
         have HT9:=H9 h9;clear C h9;go_wp2_with fail
         refine OY.o.mono ?_;rintro e g ⟨rfl,b⟩;have i:=H9 b;have L:=rY Xj.o b;have n0:g.cell? ⟨m.heap.size,0,U⟩=M (V word):=fJ g _ 0 _ _ _ L;have n1:g.cell? ⟨m.heap.size,1,U⟩=M (Z y s a):=fJ g _ 1 _ _ _ L;clear b L m0 m1 hW1;go_wp2_with fail
         refine(Oo.o g i.o).mono ?_;rintro e w4 ⟨rfl,j⟩;unfold Fm.wO;have k:=H9 ((r.o.stay i.o).stay j);clear j n0 n1;go_wp2_with fail
         refine(q.o w4 k.o.below).mono ?_;rintro e w5 ⟨rfl,N⟩;have Yy:=k.o.stay N;obtain⟨O,P,S,T,f0,f1,f2,f3⟩:=Yy.cells;have SC:=H9 Yy;clear N Yy;go_wp2;refine gq (v:=.tuple #[.agg #[V ⟨#[]⟩,V ⟨#[]⟩,V ⟨#[]⟩,Z U 0 0],I J (t.2:Int)]) (by simp[results,results305,go_sem,O,P,S,T]) rfl ⟨by rw[ZN.o,HT9.o];rfl,?_⟩;first | exact SC.o.below | exact ES SC.o.below _ _ _ _
       . rw[if_neg h9] at C;have ZN:=H9 C;have t9:((t.2:Int)==9)=F:=by rw[aR];omega
         clear C h9;go_wp2_with fail
         refine OY.o.mono ?_;rintro e g ⟨rfl,b⟩;have i:=H9 b;have L:=rY Xj.o b;have n0:g.cell? ⟨m.heap.size,0,U⟩=M (V word):=fJ g _ 0 _ _ _ L;have n1:g.cell? ⟨m.heap.size,1,U⟩=M (Z y s a):=fJ g _ 1 _ _ _ L;clear b L m0 m1 hW1;go_wp2_with fail
         refine(Oo.o g i.o).mono ?_;rintro e w4 ⟨rfl,j⟩;unfold Fm.wO;have k:=H9 ((r.o.stay i.o).stay j);clear j n0 n1;go_wp2_with fail
         refine(q.o w4 k.o.below).mono ?_;rintro e w5 ⟨rfl,N⟩;have Yy:=k.o.stay N;obtain⟨O,P,S,T,f0,f1,f2,f3⟩:=Yy.cells;have SC:=H9 Yy;clear N Yy;go_wp2;refine gq (v:=.tuple #[.agg #[V x,V ⟨f.toArray⟩,V ⟨t.1.toArray⟩,Z U 0 0],I J 0]) (by simp[results,results305,go_sem,O,P,S,T]) rfl ⟨by rw[ZN.o];unfold Fm.Mk;simp only[],?_⟩;exact ES SC.o.below _ _ _ _
theorem Xn (l:ak)(ao:aj)(cap n:Nat)(w:X)(a:jm w ao cap n (gT l))(b:l.length=n)(c:n<=1000)(d:∀p∈l,p.1.size<=2000∧p.2.size<=2000):
 Calls prog 305 #[Z ao n cap] w fun e w'=>e=Y (Fm.Mk (Fm.part (Rq.V4 l)))∧Below w.heap.size w w':=by
 have h:=ZM l ao cap n w a b c d;rw[WO su ⟨Fm.Vz.toArray⟩ l (by decide) (by decide),WO bType ⟨Fm.nType.toArray⟩ l (by decide) (by decide)] at h;exact h
end Go.Proofs.YtjmndjmhjleabaaGreatDoor