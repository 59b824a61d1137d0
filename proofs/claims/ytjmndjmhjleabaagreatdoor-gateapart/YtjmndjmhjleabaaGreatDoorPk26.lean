/- Small texts, one behind the other: RfMedA, TuM, RfMTxA, SkR, FmA, FmB, SkN. -/
import Derived.Deep.RegionHeld3
import Derived.Deep.DeepCutAuto
import Derived.Test.YtjmndjmhjleabaaGreatDoorPk25
import Derived.Test.YtjmndjmhjleabaaGreatDoorFlB
open Go.Value renaming int->I,string->V,slice->Z,pointer->Q
open Go.IntKind renaming i64->J
open Go.Obj renaming cells->K
open Go.Ending renaming returned->Y
open Option renaming none->U,some->M
open Bool renaming false->F
open Go renaming World->X
set_option maxHeartbeats 1600000
open Go.Proofs.Tryz
namespace Go.Proofs.YtjmndjmhjleabaaGreatDoor
open Go.RowKit
def Ww (m:Nat ⊕ (au×List Pm.tK))(word:av)(ps:ak)(code:Nat):Prop :=
 match m with
 | .inl c=>code=c∧word=⟨#[]⟩∧ps=[]
 | .inr x=>code=0∧word.data.toList=x.1∧mh ps=x.2
def uT (w:X)(m:Nat ⊕ (au×List Pm.tK))(e:Ending)(w':X):Prop :=
 ∃word ps ao cap,∃code:Nat,e=Y (.tuple #[.agg #[V word,Z ao ps.length cap],I J (code:Int)])∧Ww m word ps code∧gU w' w.heap.size 202 2 ao cap ps.length (gT ps)∧Below w.heap.size w w'
theorem uT.bad {w w':X}{m:Nat ⊕ (au×List Pm.tK)}{c:Nat}(a:m=.inl c)(b:Below w.heap.size w w'):uT w m (Y (.tuple #[.agg #[V ⟨#[]⟩,Z U 0 0],I J (c:Int)])) w':=by
 subst a;exact⟨⟨#[]⟩,[],U,0,c,rfl,⟨rfl,rfl,rfl⟩,gU.nil _ _ _ _,b⟩
section
end
structure BoxM (w:X)(wd:av)(ao:aj)(n cap:Nat)(wr:X):Prop where
 box:wr.heap[w.heap.size]? = M (K #[V wd,Z ao n cap] 172 (0,0))
 below:Below w.heap.size w wr
section
variable {w wr w':X} {wd:av} {ao:aj} {n cap:Nat}
theorem BoxM.size (h:BoxM w wd ao n cap wr):w.heap.size<wr.heap.size:=(aK.1 h.box).1
theorem BoxM.keep (h:BoxM w wd ao n cap wr)(a:Below wr.heap.size wr w'):BoxM w wd ao n cap w':=by
 have b:=h.size;exact⟨(a.block _ b).trans h.box,h.below.trans (a.mono (by omega))⟩
theorem BoxM.start (w:X)(wd:av)(ao:aj)(n cap:Nat):BoxM w wd ao n cap (w.alloc (K #[V wd,Z ao n cap] 172)):=⟨fH w _,(fI _ _).alloc (aL _) _⟩
theorem BoxM.cells (h:BoxM w wd ao n cap wr):wr.cell? ⟨w.heap.size,0,U⟩=M (V wd)∧wr.cell? ⟨w.heap.size,1,U⟩=M (Z ao n cap):=⟨fJ wr _ 0 _ _ _ h.box,fJ wr _ 1 _ _ _ h.box⟩
end
def bkR (m:au)(j:Nat):Value:=I J (Sk.bk m j:Int)
structure OO where
 mo:aj
 cap:Nat
 gb:Nat
def mQ (w:X)(g:Nat)(m:au)(h:Nat)(p:OO):Prop :=
 w.heap[g]? = M (K #[Z p.mo m.length p.cap,Z (M ⟨p.gb,0,U⟩) m.length m.length,I J (h:Int)] 298 (0,0)) ∧
  iD w 0 5 p.mo p.cap m∧w.rowIs p.gb 3 m.length (bkR m)
section
variable {w w':X} {g:Nat} {m:au} {h:Nat} {p:OO}
theorem mQ.lt (a:mQ w g m h p):g<w.heap.size:=(aK.1 a.1).1
theorem mQ.turns {S:Nat->Prop}(b:mQ w g m h p)(c:Turns S w w')(d:¬S g)(e:¬S p.gb)(f:∀a,p.mo=M a->¬S a.block):mQ w' g m h p :=
 ⟨c.row b.1 d,b.2.1.turns c f,b.2.2.of_block (c.block _ b.2.2.lt e)⟩
theorem mQ.stay (a:mQ w g m h p)(b:Below w.heap.size w w'):mQ w' g m h p:=a.turns (Turns.of_below (S:=fun _=>False) b) (fun e=>e) (fun e=>e) (fun _ _ e=>e)
theorem mQ.put (l:mQ w g m h p)(c:Nat):mQ (w.setCell ⟨g,2,U⟩ (I J (c:Int))) g m c p∧w.grownBy (w.setCell ⟨g,2,U⟩ (I J (c:Int))) (M g):=by
 obtain⟨d,i,j⟩:=l;have b:w.grownBy (w.setCell ⟨g,2,U⟩ (I J (c:Int))) (M g):=⟨rfl,rfl,rfl,by simp[World.setCell],fun k _ f=>gB w _ k _ (fun e=>f (by rw[e]))⟩;refine⟨⟨?_,i.kept b ?_,j.setOther (Gv d j (by decide)) _⟩,b⟩
 . rw[fM w g 2 _ _ _ d];rfl
 . intro a e;have:=lF d i (by decide);rw[gN,e] at this;exact this
end
theorem acg (w:X)(g:Nat)(m:au)(h o:Nat)(c:UInt8)(p:OO)(q:mQ w g m o p)(f:h<=m.length-1)(r:m.length<=140737488355328):
 Calls prog 266 #[Q (M ⟨g,0,U⟩),I J h,I .u8 c.toNat] w fun e w'=>e=Y (I J (Sk.fit m h c))∧w'=w:=by
 obtain⟨b,a,i⟩:=p;obtain⟨k,s,t⟩:=q;have l:w.cell? ⟨g,0,U⟩=M (Z b m.length a):=fJ w g 0 _ _ _ k;have u:w.cell? ⟨g,1,U⟩=M (Z (M ⟨i,0,U⟩) m.length m.length):=fJ w g 1 _ _ _ k;by_cases v:m.length=0
 . have e:m=[]:=dn v;subst e;have e:h=0:=by simp at f;exact f
   subst e;exact Xf g b a c w l
 . obtain⟨n,e,_,d⟩:=s.head (by omega);have e:b=M ⟨n,0,U⟩:=e;subst e;refine QL m h c g n i a w (by omega) r l u d (fun j x y=>?_);exact t.cell (by omega)
theorem OP (w:X)(g:Nat)(m:au)(h:Nat)(c:UInt8)(p:OO)(v:mQ w g m h p)(T:h<=m.length-1)(hL:m.length<=1000000)(C:Sk.fit m h c=0):
 Calls prog 267 #[Q (M ⟨g,0,U⟩),I .u8 c.toNat] w fun e w'=>∃ao cap,e=Y (.tuple #[Z ao (h+1) cap,.bool F])∧iD w' w.heap.size 5 ao cap (m.take h++[c])∧mQ w' g m 0 p∧w.grownBy w' (M g):=by
 have W:=H9 v;have x:=H9 (acg w g m h h c p v T (by omega));rw[C] at x;clear C;obtain⟨D,cap,gb⟩:=p;obtain⟨f,t,_⟩:=v;have c0:w.cell? ⟨g,0,U⟩=M (Z D m.length cap):=fJ w g 0 _ _ _ f;have c2:w.cell? ⟨g,2,U⟩=M (I J (h:Int)):=fJ w g 2 _ _ _ f;have f2:w.frozen? ⟨g,2,U⟩=F:=fK w g 2 _ _ f;have hmc:m.length<=cap:=t.wZ.1;obtain⟨i0,i,j,n,q⟩:=info_parts jN;have Hi:=H9 i;have kJ:=H9 j;have kG:=H9 n;have kK:=H9 q
 have y:=H9 (W.o.put 0);have G:=H9 (QM (m.take h) h D cap (w.setCell ⟨g,2,U⟩ (I J 0)) (by rw[bX];omega) ((t.wZ.first h (by omega)).grown y.o.2 (fun a e=>by
  have:=lF f t (by decide);rwa[gN,e] at this)) (by omega))
 clear f t i j n q;go_enter func267,ntmps267;go_wp2_with fail
 refine x.o.mono ?_;rintro e d ⟨rfl,hw⟩;subst hw;go_wp2_with fail
 refine G.o.mono ?_;rintro e w2 ⟨gV,H,rfl,L,N⟩;have O:=H9 L;have P:=H9 N
 clear L N G x;have b:(d.setCell ⟨g,2,U⟩ (I J 0)).heap.size=d.heap.size:=by simp
 go_wp2_with (at_builtin;refine iX rfl (.tmp 30) (.tmp 32) 31 rfl d.heap.size 5 i0 underlying31 Hi.o kJ.o kG.o kK.o (l:=m.take h) (l2:=[c]) rfl (by rw[bX];omega) ((O.o.mono (by omega)).alloc _) rfl rfl (iG.one _ _ _ _) (by omega) (by have:=P.o.size;simp at this ⊢;omega) ?_;intro jw r S z B)
 go_ret2;have u:=P.o;rw[b] at u;have s:Below d.heap.size (d.setCell ⟨g,2,U⟩ (I J 0)) S:=(u.alloc (by have:=u.size;rw[b] at this;exact this) _).grown B (by have:=u.size;simp at this ⊢;omega) (fun k e=>by
  cases gV with
  | none=>simp[gK] at e
  | some a=>simp[gK] at e;have:=(O.o.block a rfl).1;omega)
 refine⟨jw,r,rfl,z,y.o.1.stay (show Below (d.setCell ⟨g,2,U⟩ (I J 0)).heap.size (d.setCell ⟨g,2,U⟩ (I J 0)) S by rw[b];exact s),jV y.o.2 (Bu _ (b▸s))⟩
theorem Mf (w:X)(g:Nat)(m:au)(h:Nat)(c:UInt8)(p:OO)(b:mQ w g m h p)(l:h<=m.length-1)(u:m.length<=1000000)(n:0<m.length)(f:Sk.fit m h c=m.length):
 Calls prog 267 #[Q (M ⟨g,0,U⟩),I .u8 c.toNat] w fun e w'=>e=Y (.tuple #[Z U 0 0,.bool true])∧mQ w' g m 0 p∧w.grownBy w' (M g):=by
 have q:=H9 b;have i:=H9 (acg w g m h h c p b l (by omega));rw[f] at i;clear f;obtain⟨r,d,v⟩:=p;obtain⟨a,s,_⟩:=b;have x:w.cell? ⟨g,0,U⟩=M (Z r m.length d):=fJ w g 0 _ _ _ a;have y:w.cell? ⟨g,2,U⟩=M (I J (h:Int)):=fJ w g 2 _ _ _ a;have z:w.frozen? ⟨g,2,U⟩=F:=fK w g 2 _ _ a;have j:=H9 (q.o.put m.length);have k:=H9 (j.o.1.put 0);clear a s;have B:((m.length:Int)==0)=F:=by rw[aR];omega
 go_enter func267,ntmps267;go_wp2_with fail
 refine i.o.mono ?_;rintro e C ⟨rfl,t⟩;subst t;go_wp2;go_ret2;exact⟨rfl,k.o.1,jV j.o.2 k.o.2⟩
theorem OQ (w:X)(g:Nat)(m:au)(h r:Nat)(c:UInt8)(p:OO)(q:mQ w g m h p)(D:h<=m.length-1)(hL:m.length<=1000000)(z:Sk.fit m h c=r)(G:0<r)(H:r<m.length)(L:r<=h+1):
 Calls prog 267 #[Q (M ⟨g,0,U⟩),I .u8 c.toNat] w fun e w'=>∃ao cap,e=Y (.tuple #[Z ao (h+1-r) cap,.bool F])∧iD w' w.heap.size 5 ao cap (m.take (h+1-r))∧mQ w' g m r p∧w.grownBy w' (M g):=by
 have N:=H9 q;have B:=H9 (acg w g m h h c p q D (by omega));rw[z] at B;clear z;have f:g<w.heap.size:=q.lt;obtain⟨s,cap,gb⟩:=p;obtain⟨i,t,_⟩:=q;have O:w.cell? ⟨g,0,U⟩=M (Z s m.length cap):=fJ w g 0 _ _ _ i;have P:w.cell? ⟨g,2,U⟩=M (I J (h:Int)):=fJ w g 2 _ _ _ i;have f2:w.frozen? ⟨g,2,U⟩=F:=fK w g 2 _ _ i;have S:m.length<=cap:=t.wZ.1;have v:=H9 (N.o.put r);have T:=H9 (QM (m.take (h+1-r)) (h+1-r) s cap (w.setCell ⟨g,2,U⟩ (I J (r:Int))).drew (by rw[bX];omega) ((t.wZ.first (h+1-r) (by omega)).grown (jV v.o.2 (rz _ _)) (fun a e=>by
  have:=lF i t (by decide);rwa[gN,e] at this)) (by omega))
 clear i t;have t0:((r:Int)==0)=F:=by rw[aR];omega
 have t1:((r:Int)==m.length)=F:=by rw[aR];omega
 have x:(w.setCell ⟨g,2,U⟩ (I J (r:Int))).drew.cell? ⟨g,0,U⟩=M (Z s m.length cap):=(fP w ⟨g,2,U⟩ ⟨g,0,U⟩ _ (by simp)).trans O;have y:(w.setCell ⟨g,2,U⟩ (I J (r:Int))).drew.cell? ⟨g,2,U⟩=M (I J (r:Int)):=fO w ⟨g,2,U⟩ _ P;have b0:(r:Int)<=(h:Int)+1:=by omega
 have b1:(h:Int)+1-r<=cap:=by omega
 have b2:((h:Int)+1-r).toNat=h+1-r:=by omega
 have b3:IntKind.i64.wrap ((h:Int)+1)=(h:Int)+1:=lY (by omega) (by omega);have b4:IntKind.i64.wrap ((h:Int)+1-r)=(h:Int)+1-r:=lY (by omega) (by omega);go_enter func267,ntmps267;go_wp2_with fail
 refine B.o.mono ?_;rintro e d ⟨rfl,W⟩;subst W;go_wp2;go_region_held3 (fun w'=>w'.cell? ⟨g,0,U⟩=M (Z s m.length cap)∧w'.cell? ⟨g,2,U⟩=M (I J (r:Int))) (go_keep) (first | (go_at_call 265;refine T.o.mono ?_;rintro e w2 ⟨gV,j,rfl,k,u⟩;have c0':=(u.cell (p:=⟨g,0,U⟩) (by simpa using f)).trans x;have c2':=(u.cell (p:=⟨g,2,U⟩) (by simpa using f)).trans y;have HO:=H9 k;have HB:=H9 u;clear k u))
 all_goals
  go_wp2;go_ret2;have C:=HB.o;have l:(d.setCell ⟨g,2,U⟩ (I J (r:Int))).drew.heap.size=d.heap.size:=by simp
  have k:=HO.o;rw[l] at C k;have n:Below d.heap.size (d.setCell ⟨g,2,U⟩ (I J (r:Int))) w2:=(gP _ _).trans C;have b:(d.setCell ⟨g,2,U⟩ (I J (r:Int))).heap.size=d.heap.size:=l;refine⟨gV,j,rfl,k,v.o.1.stay (by rw[b];exact n),jV v.o.2 (Bu _ (b▸n))⟩
theorem Bd (w:X)(g:Nat)(m:au)(h:Nat)(c:UInt8)(p:OO)(i:mQ w g m h p)(d:h<=m.length-1)(j:m.length<=1000000):
 Calls prog 267 #[Q (M ⟨g,0,U⟩),I .u8 c.toNat] w fun e w'=>∃ao cap,e=Y (.tuple #[Z ao (Sk.out m h c).length cap,.bool (Sk.found m h c)])∧iD w' w.heap.size 5 ao cap (Sk.out m h c)∧mQ w' g m (Sk.after m h c) p∧w.grownBy w' (M g):=by
 have n:=Sk.Nq m h c;have b:=Sk.CY m h c;by_cases f:Sk.fit m h c=0
 . have a:Sk.found m h c=F:=by unfold Sk.found;rw[f,dw,bP,bP];omega
   have ha:Sk.after m h c=0:=by unfold Sk.after;rw[a,f];rfl
   rw[Sk.DF f,a,ha,show(m.take h++[c]).length=h+1 by simp;omega];exact OP w g m h c p i d j f
 . by_cases k:Sk.fit m h c=m.length
   . have a:Sk.found m h c=true:=by unfold Sk.found;rw[cZ,bQ,bQ];exact⟨by omega,k⟩
     have ha:Sk.after m h c=0:=by unfold Sk.after;rw[a];rfl
     rw[Sk.G9 a d,a,ha];refine(Mf w g m h c p i d j (by omega) k).mono ?_;rintro e w' ⟨rfl,l,o⟩;exact⟨U,0,rfl,iD.nil _ _ _,l,o⟩
   . have a:Sk.found m h c=F:=by unfold Sk.found;rw[dw,bP,bP];exact Or.inr k
     have ha:Sk.after m h c=Sk.fit m h c:=by unfold Sk.after;rw[a];rfl
     rw[Sk.Vx (by omega) (by omega),a,ha,show(m.take (h+1-Sk.fit m h c)).length=h+1-Sk.fit m h c by rw[bX];omega];exact OQ w g m h _ c p i d j rfl (by omega) (by omega) b
structure jv (w:X)(g:Nat)(sk:Value)(ah:Int)(ln:Value)(fo:aj)(nf gL:Nat)(pl pt cd:Int):Prop where
 row:w.heap[g]? = M (K #[sk,I J ah,ln,Z fo nf gL,I J pl,I J pt,I J cd] 266 (0,0))
section
variable {w w':X} {g:Nat} {sk ln:Value} {fo:aj} {nf gL:Nat} {ah pl pt cd:Int}
theorem jv.lt (h:jv w g sk ah ln fo nf gL pl pt cd):g<w.heap.size:=(aK.1 h.row).1
theorem jv.c0 (h:jv w g sk ah ln fo nf gL pl pt cd):w.cell? ⟨g,0,U⟩=M sk:=fJ w g 0 _ _ _ h.row
theorem jv.c1 (h:jv w g sk ah ln fo nf gL pl pt cd):w.cell? ⟨g,1,U⟩=M (I J ah):=fJ w g 1 _ _ _ h.row
theorem jv.c2 (h:jv w g sk ah ln fo nf gL pl pt cd):w.cell? ⟨g,2,U⟩=M ln:=fJ w g 2 _ _ _ h.row
theorem jv.c3 (h:jv w g sk ah ln fo nf gL pl pt cd):w.cell? ⟨g,3,U⟩=M (Z fo nf gL):=fJ w g 3 _ _ _ h.row
theorem jv.c4 (h:jv w g sk ah ln fo nf gL pl pt cd):w.cell? ⟨g,4,U⟩=M (I J pl):=fJ w g 4 _ _ _ h.row
theorem jv.c5 (h:jv w g sk ah ln fo nf gL pl pt cd):w.cell? ⟨g,5,U⟩=M (I J pt):=fJ w g 5 _ _ _ h.row
theorem jv.c6 (h:jv w g sk ah ln fo nf gL pl pt cd):w.cell? ⟨g,6,U⟩=M (I J cd):=fJ w g 6 _ _ _ h.row
theorem jv.fz (h:jv w g sk ah ln fo nf gL pl pt cd)(j:Nat):w.frozen? ⟨g,j,U⟩=F:=fK w g j _ _ h.row
theorem jv.turns {S:Nat->Prop}(h:jv w g sk ah ln fo nf gL pl pt cd)(a:Turns S w w')(b:¬S g):jv w' g sk ah ln fo nf gL pl pt cd:=⟨a.row h.row b⟩
theorem jv.stay (h:jv w g sk ah ln fo nf gL pl pt cd)(a:Below w.heap.size w w'):jv w' g sk ah ln fo nf gL pl pt cd:=⟨(a.block g h.lt).trans h.row⟩
theorem jv.s1 (h:jv w g sk ah ln fo nf gL pl pt cd)(v:Int):jv (w.setCell ⟨g,1,U⟩ (I J v)) g sk v ln fo nf gL pl pt cd:=⟨by rw[fM w g 1 _ _ _ h.row];rfl⟩
theorem jv.s3 (h:jv w g sk ah ln fo nf gL pl pt cd)(a:aj)(b c:Nat):jv (w.setCell ⟨g,3,U⟩ (Z a b c)) g sk ah ln a b c pl pt cd:=⟨by rw[fM w g 3 _ _ _ h.row];rfl⟩
theorem jv.s4 (h:jv w g sk ah ln fo nf gL pl pt cd)(v:Int):jv (w.setCell ⟨g,4,U⟩ (I J v)) g sk ah ln fo nf gL v pt cd:=⟨by rw[fM w g 4 _ _ _ h.row];rfl⟩
theorem jv.s5 (h:jv w g sk ah ln fo nf gL pl pt cd)(v:Int):jv (w.setCell ⟨g,5,U⟩ (I J v)) g sk ah ln fo nf gL pl v cd:=⟨by rw[fM w g 5 _ _ _ h.row];rfl⟩
theorem jv.set (w:X)(g:Nat)(j:Nat)(v:Value):Turns (fun k=>k=g) w (w.setCell ⟨g,j,U⟩ v):=Turns.setCell (fun k=>k=g) w ⟨g,j,U⟩ v rfl
end
structure tJ (w:X)(C:Nat->Prop)(m:au)(s:Fm.St)(gs gl:Nat)(p:OO)(fo:aj)(gL:Nat)(D:Nat->Prop):Prop where
 sk:mQ w gs m s.held p
 Ad:C gs∧C p.gb∧∀a,p.mo=M a->C a.block
 OT:¬D gs∧¬D p.gb∧∀a,p.mo=M a->¬D a.block
 ln:iy w (fun k=>C k∧D k) gl s.ln
 own:gU w 0 111 2 fo gL s.fields.length (gT (Rq.nu s.fields))
 fC:∀a,fo=M a->C a.block∧¬D a.block
section
variable {w w':X} {C C' S' D:Nat->Prop} {m:au} {s:Fm.St} {gs gl:Nat} {p:OO} {fo:aj} {gL:Nat}
theorem tJ.mono (h:tJ w C m s gs gl p fo gL D)(b:∀k,k<w.heap.size->C k->C' k):tJ w C' m s gs gl p fo gL D :=
 ⟨h.sk,⟨b _ h.sk.lt h.Ad.1,b _ h.sk.2.2.lt h.Ad.2.1,fun a e=>b _ (h.sk.2.1.block a e).2 (h.Ad.2.2 a e)⟩,h.OT,h.ln.mono (fun k c e=>⟨b k c e.1,e.2⟩),h.own,fun a e=>⟨b _ (h.own.block a e).2 (h.fC a e).1,(h.fC a e).2⟩⟩
theorem tJ.turns (h:tJ w C m s gs gl p fo gL D)(c:Turns S' w w')(b:∀k,C k->¬S' k):tJ w' C m s gs gl p fo gL D :=
 ⟨h.sk.turns c (b _ h.Ad.1) (b _ h.Ad.2.1) (fun a e=>b _ (h.Ad.2.2 a e)),h.Ad,h.OT,h.ln.turns c (fun k e=>b k e.1),h.own.turns c (fun a e=>b _ (h.fC a e).1),h.fC⟩
theorem tJ.stay (h:tJ w C m s gs gl p fo gL D)(a:Below w.heap.size w w'):tJ w' C m s gs gl p fo gL D:=h.turns (Turns.of_below (S:=fun _=>False) a) (fun _ _ e=>e)
theorem tJ.as {a:Fm.St}(h:tJ w C m s gs gl p fo gL D)(b:a.held=s.held)(c:a.ln=s.ln)(d:a.fields=s.fields):tJ w C m a gs gl p fo gL D :=
 ⟨b▸h.sk,h.Ad,h.OT,c▸h.ln,d▸h.own,h.fC⟩
theorem tJ.fs (h:tJ w C m s gs gl p fo gL D):∀a,fo=M a->a.block≠gs∧a.block≠p.gb∧∀b,p.mo=M b->a.block≠b.block:=by
 intro a e;have j:=lF h.sk.1 h.own (by decide);rw[gN,e] at j;refine⟨fun f=>j (by simp[gK,f]),fun f=>?_,fun b k f=>?_⟩
 . obtain⟨q,i,_⟩:=h.sk.2.2;have g:=lF i h.own (by decide);rw[gN,e] at g;exact g (by simp[gK,f])
 . rcases h.sk.2.1.2 with c | ⟨r,l,n,d,_,o,_⟩
   . have c:=c.1;rw[k] at c;injection c with c;cases c
   . rw[k] at d;injection d with d;injection d with d;have g:=lF o h.own (by decide);rw[gN,e] at g;exact g (by simp[gK,f,d])
end
inductive ko (w:X)(S:Nat->Prop)(g:Nat)(m:au)(s:Fm.St):Prop
 | dead (h:¬Fm.live s) (me:S g) (row:jv w g (Q U) (s.ahead:Int) (Q U) U 0 0 (s.place:Int) (s.parts:Int) (s.code:Int))
 | live (h:Fm.live s) (me:S g) (gs gl:Nat) (p:OO) (fo:aj) (gL:Nat) (D:Nat->Prop) (row:jv w g (Q (M ⟨gs,0,U⟩)) (s.ahead:Int) (Q (M ⟨gl,0,U⟩)) fo s.fields.length gL (s.place:Int) (s.parts:Int) (s.code:Int)) (inn:tJ w (fun k=>S k∧k≠g) m s gs gl p fo gL D)
section
variable {w w':X} {S S':Nat->Prop} {g:Nat} {m:au} {s:Fm.St}
theorem ko.lt (h:ko w S g m s):g<w.heap.size:=by
 cases h with
 | dead h a row=>exact row.lt
 | live h a b c p d e D row inn=>exact row.lt
theorem ko.me (h:ko w S g m s):S g:=by
 cases h with
 | dead h a row=>exact a
 | live h a b c p d e D row inn=>exact a
theorem ko.mono (h:ko w S g m s)(a:∀k,k<w.heap.size->S k->S' k):ko w S' g m s:=by
 cases h with
 | dead h b row=>exact .dead h (a g row.lt b) row
 | live h b c d p f i D row inn=>exact .live h (a g row.lt b) c d p f i D row (inn.mono (fun k j e=>⟨a k j e.1,e.2⟩))
theorem ko.turns (h:ko w S g m s)(b:Turns S' w w')(c:∀k,S k->¬S' k):ko w' S g m s:=by
 cases h with
 | dead h a row=>exact .dead h a (row.turns b (c g a))
 | live h a d f p i j D row inn=>exact .live h a d f p i j D (row.turns b (c g a)) (inn.turns b (fun k e=>c k e.1))
theorem ko.stay (h:ko w S g m s)(a:Below w.heap.size w w'):ko w' S g m s:=h.turns (Turns.of_below (S:=fun _=>False) a) (fun _ _ e=>e)
theorem ko.cells (h:ko w S g m s):w.cell? ⟨g,4,U⟩=M (I J (s.place:Int))∧w.cell? ⟨g,5,U⟩=M (I J (s.parts:Int))∧w.cell? ⟨g,6,U⟩=M (I J (s.code:Int))∧∀j,w.frozen? ⟨g,j,U⟩=F:=by
 cases h with
 | dead h a row=>exact⟨row.c4,row.c5,row.c6,row.fz⟩
 | live h a b c p d e D row inn=>exact⟨row.c4,row.c5,row.c6,row.fz⟩
end
theorem Tx (w:X)(S:Nat->Prop)(g:Nat)(m:au)(s:Fm.St)(h:ko w S g m s):
 Calls prog 197 #[Q (M ⟨g,0,U⟩)] w fun e w'=>e=Y (I J (Fm.close s:Int))∧w'=w:=by
 obtain⟨j,_,k,_⟩:=h.cells;clear h;by_cases b:s.code=0
 . have f:((s.code:Int)==0)=true:=by rw[aS];omega
   by_cases c:s.place=6
   . have i:((s.place:Int) != 6)=F:=by rw[c];rfl
     have a:Fm.close s=s.code:=by unfold Fm.close;rw[if_neg (fun e=>e.2 c)]
     rw[a];generalize (s.code:Int)=d at *;generalize (s.place:Int)=pl at *;clear b c a;go_enter func197,ntmps197;go_wp2;go_ret;exact⟨rfl,rfl⟩
   . have i:((s.place:Int) != 6)=true:=by rw[cO];omega
     have a:Fm.close s=14:=by unfold Fm.close;rw[if_pos ⟨b,c⟩]
     rw[a];generalize (s.code:Int)=d at *;generalize (s.place:Int)=pl at *;clear b c a;go_enter func197,ntmps197;go_wp2;go_ret;exact⟨rfl,rfl⟩
 . have f:((s.code:Int)==0)=F:=by rw[aR];omega
   have a:Fm.close s=s.code:=by unfold Fm.close;rw[if_neg (fun e=>b e.1)]
   rw[a];generalize (s.code:Int)=d at *;generalize (s.place:Int)=pl at *;clear b a;go_enter func197,ntmps197;go_wp2;go_ret;exact⟨rfl,rfl⟩
theorem Xg (w:X)(p:Nat)(c:UInt8)(t:p=1∨p=2∨p=3∨p=4):
 Calls prog 296 #[I J (p:Int),I .u8 c.toNat] w fun e w'=>e=Y (.tuple #[I J ((Fm.turn p c).1:Int),I J ((Fm.turn p c).2:Int)])∧w'=w:=by
 have T:∀d:UInt8,((c.toNat:Int)==(d.toNat:Int))=decide (c=d):=fun d=>by
  rw[aG,aS,bQ];constructor
  . intro e;exact dQ.1 (by omega)
  . intro e;rw[e]
 have m:((c.toNat:Int)==10)=decide (c=10):=T 10;have q:((c.toNat:Int) != 10)=!decide (c=10):=by rw[<-m];rfl
 have k:((c.toNat:Int)==45)=decide (c=45):=T 45;have g:((c.toNat:Int)==32)=decide (c=32):=T 32;have r:((c.toNat:Int)==9)=decide (c=9):=T 9;have s:((c.toNat:Int)==13)=decide (c=13):=T 13;clear T;have u:∃x y:Nat,Fm.turn p c=(x,y):=⟨_,_,rfl⟩;obtain⟨x,y,n⟩:=u;have l:=H9 n;rw[n];unfold Fm.turn at l;generalize (c.toNat:Int)=v at *;clear n;rcases t with rfl | rfl | rfl | rfl
 . have f:Hid ((if c=45 then (2,0) else if c=32∨c=9 then (3,0) else if c=13 then (4,0) else (0,5))=(x,y)):=by
    have:=l.o;rw[if_neg (by decide),if_neg (by decide)] at this;unfold Hid;simpa using this
   clear l;by_cases a:c=45
   . obtain⟨rfl,rfl⟩:2=x∧0=y:=by have:=f.o;rw[if_pos a] at this;simpa using this
     rw[aH a] at k;clear a f;go_enter func296,ntmps296;go_wp2;go_ret2;exact⟨rfl,rfl⟩
   . rw[aI a] at k;by_cases b:c=32∨c=9
     . obtain⟨rfl,rfl⟩:3=x∧0=y:=by have:=f.o;rw[if_neg a,if_pos b] at this;simpa using this
       rcases b with b | b
       . rw[aH b] at g;clear a f b;go_enter func296,ntmps296;go_wp2;go_ret2;exact⟨rfl,rfl⟩
       . rw[aI (by rw[b];decide)] at g;rw[aH b] at r;clear a f b;go_enter func296,ntmps296;go_wp2;go_ret2;exact⟨rfl,rfl⟩
     . rw[aI (fun e=>b (Or.inl e))] at g;rw[aI (fun e=>b (Or.inr e))] at r;by_cases i:c=13
       . obtain⟨rfl,rfl⟩:4=x∧0=y:=by have:=f.o;rw[if_neg a,if_neg b,if_pos i] at this;simpa using this
         rw[aH i] at s;clear a f b i;go_enter func296,ntmps296;go_wp2;go_ret2;exact⟨rfl,rfl⟩
       . obtain⟨rfl,rfl⟩:0=x∧5=y:=by have:=f.o;rw[if_neg a,if_neg b,if_neg i] at this;simpa using this
         rw[aI i] at s;clear a f b i;go_enter func296,ntmps296;go_wp2;go_ret2;exact⟨rfl,rfl⟩
 . have f:Hid ((if c=45 then (6,0) else (0,5))=(x,y)):=by
    have:=l.o;rw[if_neg (by decide),if_pos rfl] at this;exact this
   clear l;by_cases a:c=45
   . obtain⟨rfl,rfl⟩:6=x∧0=y:=by have:=f.o;rw[if_pos a] at this;simpa using this
     rw[aH a] at k;clear a f;go_enter func296,ntmps296;go_wp2;go_ret2;exact⟨rfl,rfl⟩
   . obtain⟨rfl,rfl⟩:0=x∧5=y:=by have:=f.o;rw[if_neg a] at this;simpa using this
     rw[aI a] at k;clear a f;go_enter func296,ntmps296;go_wp2;go_ret2;exact⟨rfl,rfl⟩
 . have f:Hid ((if c=32∨c=9 then (3,0) else if c=13 then (4,0) else (0,5))=(x,y)):=by
    have:=l.o;rw[if_neg (by decide),if_neg (by decide),if_neg (fun e=>by have:=e.1;omega)] at this;exact this
   clear l;by_cases b:c=32∨c=9
   . obtain⟨rfl,rfl⟩:3=x∧0=y:=by have:=f.o;rw[if_pos b] at this;simpa using this
     rcases b with b | b
     . rw[aH b] at g;clear f b;go_enter func296,ntmps296;go_wp2;go_ret2;exact⟨rfl,rfl⟩
     . rw[aI (by rw[b];decide)] at g;rw[aH b] at r;clear f b;go_enter func296,ntmps296;go_wp2;go_ret2;exact⟨rfl,rfl⟩
   . rw[aI (fun e=>b (Or.inl e))] at g;rw[aI (fun e=>b (Or.inr e))] at r;by_cases i:c=13
     . obtain⟨rfl,rfl⟩:4=x∧0=y:=by have:=f.o;rw[if_neg b,if_pos i] at this;simpa using this
       rw[aH i] at s;clear f b i;go_enter func296,ntmps296;go_wp2;go_ret2;exact⟨rfl,rfl⟩
     . obtain⟨rfl,rfl⟩:0=x∧5=y:=by have:=f.o;rw[if_neg b,if_neg i] at this;simpa using this
       rw[aI i] at s;clear f b i;go_enter func296,ntmps296;go_wp2;go_ret2;exact⟨rfl,rfl⟩
 . have f:Hid ((if c=10 then (5,0) else (0,2))=(x,y)):=by
    have:=l.o;rw[if_pos rfl] at this;exact this
   clear l;by_cases j:c=10
   . obtain⟨rfl,rfl⟩:5=x∧0=y:=by have:=f.o;rw[if_pos j] at this;simpa using this
     rw[aH j] at m q;clear j f;go_enter func296,ntmps296;go_wp2;go_ret2;exact⟨rfl,rfl⟩
   . obtain⟨rfl,rfl⟩:0=x∧2=y:=by have:=f.o;rw[if_neg j] at this;simpa using this
     rw[aI j] at m q;clear j f;go_enter func296,ntmps296;go_wp2;go_ret2;exact⟨rfl,rfl⟩
theorem Tz (w:X)(g:Nat)(fo:aj)(nf gL:Nat)(a:w.cell? ⟨g,3,U⟩=M (Z fo nf gL))(b:w.frozen? ⟨g,3,U⟩=F):
 Calls prog 306 #[Q (M ⟨g,2,U⟩)] w fun e w'=>e=Y (Z fo nf gL)∧w'=w.setCell ⟨g,3,U⟩ (Z U 0 0):=by
 go_enter func306,ntmps306;go_wp2;go_ret;exact⟨rfl,rfl⟩
theorem TA {m:au}(c:m.take 2=[13,10])(g:3<=m.length):Sk.after m 0 13=1∧Sk.after m 1 10=2:=by
 have a:m.take 1=[13]:=by
  have:=bD (List.take 1) c;rw[List.take_take] at this;simpa using this
 have d:Sk.fit m 0 13=1:=by
  refine Sk.oK.best ⟨by omega,by rw[a];exact List.suffix_refl _,fun k e _ b=>?_⟩;have:=b.length_le;rw[bX] at this;simp at this;omega
 have f:Sk.fit m 1 10=2:=by
  refine Sk.oK.best ⟨by omega,by rw[c,a];exact List.suffix_refl _,fun k e _ b=>?_⟩;have:=b.length_le;rw[bX] at this;simp at this;omega
 constructor
 . unfold Sk.after Sk.found;rw[d];simp;omega
 . unfold Sk.after Sk.found;rw[f];simp;omega
theorem yB (w:X)(g gs:Nat)(m:au)(p:OO)(v:Value)(s:w.cell? ⟨g,0,U⟩=M (Q (M ⟨gs,0,U⟩)))(u:w.cell? ⟨g,1,U⟩=M v)(x:w.frozen? ⟨g,1,U⟩=F)(y:g≠gs)(q:mQ w gs m 0 p)(t:m.take 2=[13,10])(z:3<=m.length)(T:m.length<=1000000):
 Calls prog 232 #[Q (M ⟨g,0,U⟩)] w fun e w'=>∃B,e=Y (.tuple #[])∧w'=B.setCell ⟨g,1,U⟩ (I J 2)∧mQ B gs m 2 p∧w.grownBy B (M gs):=by
 have HA:=H9 (TA t z);have n:=H9 q;have C:Hid (∀W,w.grownBy W (M gs)->W.cell? ⟨g,0,U⟩=M (Q (M ⟨gs,0,U⟩))∧W.cell? ⟨g,1,U⟩=M v∧W.frozen? ⟨g,1,U⟩=F):=fun W i=>by
  have D:(M g:Option Nat)≠M gs:=fun e=>y (by injection e);refine⟨i.cell s D,i.cell u D,?_⟩;rw[gG (a:=⟨g,1,U⟩) (i.block g (fZ w _ s) D)];exact x
 have G:Hid (3<=m.length∧m.length<=1000000):=⟨z,T⟩;clear q t z T s u x;go_enter func232,ntmps232;go_wp2;go_loopw [3] (fun H wr=>∃k:Nat,k<=2∧H=I J k∧mQ wr gs m k p∧w.grownBy wr (M gs)) (fun H _=>2-(intOf H).toNat)
 case atStart=>exact⟨0,by omega,rfl,n.o,⟨rfl,rfl,rfl,aL _,fun _ _ _=>rfl⟩⟩
 case round =>
  clear n;obtain⟨k,hk,rfl,q,i⟩:=hrel;have n:=H9 q;have L:=H9 i
  obtain⟨s,u,x⟩:=C.o wr i;clear q i;by_cases t:k=2
  . subst t;go_wp2;go_end0
    exact⟨wr,rfl,rfl,n.o,L.o⟩
  . by_cases h0:k=0
    . subst h0;have f:=H9 (fun(W:X) (N:mQ W gs m 0 p)=>Bd W gs m 0 13 p N (ay _) G.o.2);rw[HA.o.1] at f;generalize (Sk.out m 0 13)=oo at f;generalize (Sk.found m 0 13)=ff at f;have O:=H9 (n.o.stay (gP _ _));go_wp2;go_region_held3 (fun w'=>w'.cell? ⟨g,0,U⟩=M (Q (M ⟨gs,0,U⟩))) (go_keep) (first | (go_at_call 267;refine(f.o _ O.o).mono ?_;rintro e w2 ⟨gV,r,rfl,P,c,d⟩;have b:=jV L.o (jV (rz _ _) d);have S:=(C.o _ b).1;have j:=H9 c;have l:=H9 b;clear P c d b))
      all_goals
       go_wp2;go_roundw
       case rel=>exact⟨1,by omega,by go_num,j.o,l.o⟩
       case measure=>simp[intOf]
    . obtain rfl:k=1:=by omega
      have f:=H9 (fun(W:X) (N:mQ W gs m 1 p)=>Bd W gs m 1 10 p N (by have:=G.o.1;omega) G.o.2);rw[HA.o.2] at f;generalize (Sk.out m 1 10)=oo at f;generalize (Sk.found m 1 10)=ff at f;have O:=H9 (n.o.stay (gP _ _));go_wp2;go_region_held3 (fun w'=>w'.cell? ⟨g,0,U⟩=M (Q (M ⟨gs,0,U⟩))) (go_keep) (first | (go_at_call 267;refine(f.o _ O.o).mono ?_;rintro e w2 ⟨gV,r,rfl,P,c,d⟩;have b:=jV L.o (jV (rz _ _) d);have S:=(C.o _ b).1;have j:=H9 c;have l:=H9 b;clear P c d b))
      all_goals
       go_wp2;go_roundw
       case rel=>exact⟨2,by omega,by go_num,j.o,l.o⟩
       case measure=>simp[intOf]
inductive aaW (w:X)(g gs ah:Nat)(m:au)(h:Nat)(c:UInt8)(p:OO)(e:Ending)(w':X):Prop
 | mk (w1:X) (ao:aj) (cap n:Nat) (he:e=Y (.tuple #[Z ao n cap,.bool (Sk.found m h c)])) (hn:n=((Sk.out m h c).drop ah).length) (hw:w'=w1.setCell ⟨g,1,U⟩ (I J ((ah-(Sk.out m h c).length:Nat):Int))) (hB:iG w1 ao cap ((Sk.out m h c).drop ah)) (hlo:∀a,ao=M a->w.heap.size<=a.block) (hS:mQ w1 gs m (Sk.after m h c) p) (hG:w.grownBy w1 (M gs))
theorem ER (w:X)(g gs d:Nat)(m:au)(h:Nat)(c:UInt8)(p:OO)(C:w.cell? ⟨g,0,U⟩=M (Q (M ⟨gs,0,U⟩)))(G:w.cell? ⟨g,1,U⟩=M (I J (d:Int)))(H:w.frozen? ⟨g,1,U⟩=F)(L:g≠gs)(hS:mQ w gs m h p)(hh:h<=m.length-1)(hL:m.length<=1000)(ha:d<=1000):
 Calls prog 292 #[Q (M ⟨g,0,U⟩),I .u8 c.toNat] w fun e w'=>aaW w g gs d m h c p e w':=by
 have N:=H9 (Bd w gs m h c p hS hh (by omega));have O:=Fm.yN m h c hh;have HC:Hid (∀W,w.grownBy W (M gs)->W.cell? ⟨g,0,U⟩=M (Q (M ⟨gs,0,U⟩))∧W.cell? ⟨g,1,U⟩=M (I J (d:Int))∧W.frozen? ⟨g,1,U⟩=F):=fun W j=>by
  have y:(M g:Option Nat)≠M gs:=fun e=>L (by injection e);refine⟨j.cell C y,j.cell G y,?_⟩;rw[gG (a:=⟨g,1,U⟩) (j.block g (fZ w _ C) y)];exact H
 have z:∀(l:X) (f r:aj) (b n k:Nat),iD l w.heap.size 5 f b (Sk.out m h c)->mQ l gs m (Sk.after m h c) p->w.grownBy l (M gs)->k=min d (Sk.out m h c).length->n=(Sk.out m h c).length-k->(b≠k->r=f.map (·.add k))->(b=k->r=f)->aaW w g gs d m h c p (Y (.tuple #[Z r n (b-k),.bool (Sk.found m h c)])) (l.setCell ⟨g,1,U⟩ (I J ((d-(Sk.out m h c).length:Nat):Int))):=fun l f r b n k s q j hk y h1 h2=>by
  subst hk;have hd:(Sk.out m h c).drop d=(Sk.out m h c).drop (min d (Sk.out m h c).length):=by
   rcases Nat.le_total d (Sk.out m h c).length with e | e
   . rw[dU e]
   . rw[Nat.min_eq_right e,aJ e,aJ (aL _)]
  have hcut:=s.wZ.cut (gV:=r) (min d (Sk.out m h c).length) (Sk.out m h c).length (Nat.min_le_right _ _) (aL _) h1;rw[dN (by rw[bU];omega),<-hd] at hcut;refine .mk l r (b-min d (Sk.out m h c).length) n rfl (by rw[hd,bU];exact y) rfl hcut (fun a e=>?_) q j;by_cases hc:b=min d (Sk.out m h c).length
  . rw[h2 hc] at e;exact(s.block a e).1
  . rw[h1 hc] at e;cases f with
    | none=>cases e
    | some D=>simp at e;subst e;rw[add_block];exact(s.block D rfl).1
 have u:=H9 z;generalize B:Sk.out m h c=out at *;generalize P:Sk.found m h c=fd at *;obtain⟨no,v⟩:∃no,out.length=no:=⟨_,rfl⟩;have sG:=H9 v;rw[v] at N O u;clear z G H hS B P v;go_enter func292,ntmps292;go_wp2_with fail
 refine N.o.mono ?_;rintro e l ⟨f,b,rfl,s,q,j⟩;clear C;obtain⟨C,G,H⟩:=HC.o l j;have hcap:no<=b:=by have:=s.wZ.1;rw[sG.o] at this;exact this
 have t:f=U->b=0:=s.wZ.2.1;have x:=H9 (fun r n k=>u.o l f r b n k s q j);clear s q j N u;by_cases S:d<=no
 . have e1:min (d:Int) (no:Int)=d:=by omega
   have e2:d-no=0:=by omega
   have T:min d no=d:=dU S;rw[e2,T] at x;by_cases i:b=d
   . obtain rfl:no=d:=by omega
     subst i;go_wp2;go_ret2;have:=x.o f 0 b rfl (by omega) (fun e=>absurd rfl e) (fun _=>rfl);simpa using this
   . cases f with
     | none=>have:=t rfl;omega
     | some D =>
       go_wp2;go_ret2;exact x.o _ _ d rfl rfl (fun _=>rfl) (fun e=>absurd e i)
 . have e1:min (d:Int) (no:Int)=no:=by omega
   have T:min d no=no:=Nat.min_eq_right (by omega);have e4:((d-no:Nat):Int)=(d:Int)-no:=by omega
   rw[T,e4] at x;by_cases i:b=no
   . subst i;go_wp2;go_ret2;have:=x.o f 0 b rfl (by omega) (fun e=>absurd rfl e) (fun _=>rfl);simpa using this
   . cases f with
     | none=>have:=t rfl;omega
     | some D =>
       go_wp2;go_ret2;have:=x.o (M (D.add no)) 0 no rfl (by omega) (fun _=>rfl) (fun e=>absurd e i);simpa using this
def bkK (m:au)(k j:Nat):Value:=if j<=k then bkR m j else I J 0
def wU (w:X)(lo g gb:Nat)(m:au)(mo:aj)(cap k:Nat):Prop :=
 w.heap[g]? = M (K #[Z mo m.length cap,Z (M ⟨gb,0,U⟩) m.length m.length,I J 0] 298 (0,0)) ∧
  iD w lo 5 mo cap m∧w.rowIs gb 3 m.length (bkK m k)∧lo<=g∧lo<=gb
theorem zeros (m:au)(j:Nat):Value.int J 0=bkK m 1 j:=by
 unfold bkK;split
 . have e:j=0∨j=1:=by omega
   rcases e with rfl | rfl <;> rfl
 . rfl
theorem acy {w a:X}{m:au}{ao:aj}{cap:Nat}(d:iD a w.heap.size 5 ao cap m)(b:Below w.heap.size w a):
 wU ((a.alloc (K (madeCells #[I J 0] m.length) 3)).alloc (K #[Z ao m.length cap,Z (M ⟨a.heap.size,0,U⟩) m.length m.length,I J 0] 298)) w.heap.size (a.heap.size+1) a.heap.size m ao cap 1 ∧
 Below w.heap.size w ((a.alloc (K (madeCells #[I J 0] m.length) 3)).alloc (K #[Z ao m.length cap,Z (M ⟨a.heap.size,0,U⟩) m.length m.length,I J 0] 298)):=by
 have c:=b.size;refine⟨⟨?_,(d.alloc _).alloc _,((World.rowIs_made a _ _ _).alloc _).congr (fun j _=>zeros m j),by omega,c⟩,(b.alloc c _).alloc (by simp;omega) _⟩;have:=fH (a.alloc (K (madeCells #[I J 0] m.length) 3)) (K #[Z ao m.length cap,Z (M ⟨a.heap.size,0,U⟩) m.length m.length,I J 0] 298);simpa using this
theorem acz {w a:X}{m:au}{ao:aj}{cap:Nat}(c:iD a (w.alloc (K (madeCells #[I J 0] m.length) 3)).drew.heap.size 5 ao cap m)(b:Below (w.alloc (K (madeCells #[I J 0] m.length) 3)).drew.heap.size (w.alloc (K (madeCells #[I J 0] m.length) 3)).drew a):
 wU (a.alloc (K #[Z ao m.length cap,Z (M ⟨w.heap.size,0,U⟩) m.length m.length,I J 0] 298)) w.heap.size a.heap.size w.heap.size m ao cap 1 ∧
 Below w.heap.size w (a.alloc (K #[Z ao m.length cap,Z (M ⟨w.heap.size,0,U⟩) m.length m.length,I J 0] 298)):=by
 have d:=b.size;have e:(w.alloc (K (madeCells #[I J 0] m.length) 3)).drew.heap.size=w.heap.size+1:=by simp
 rw[e] at c b d;replace b:=(gP _ (w.alloc (K (madeCells #[I J 0] m.length) 3))).trans b;refine⟨⟨fH a _,(c.mono (by omega)).alloc _,(((World.rowIs_made w _ _ _).of_block (b.block _ (by omega))).alloc _).congr (fun j _=>zeros m j),by omega,aL _⟩,(((fI _ _).alloc (aL _) _).trans (b.mono (by omega))).alloc (by omega) _⟩
theorem Xr (m:au)(ao:aj)(cap:Nat)(w:X)(h:iG w ao cap m)(hL:m.length<=1000000):
 Calls prog 231 #[Z ao m.length cap] w fun e w'=>∃g p,e=Y (Q (M ⟨g,0,U⟩))∧mQ w' g m 0 p∧w.heap.size<=g∧w.heap.size<=p.gb∧(∀a,p.mo=M a->w.heap.size<=a.block)∧Below w.heap.size w w':=by
 have H:=H9 h;have HC:=H9 (fun(W:X) (hW:iG W ao cap m)=>IE m ao cap W hW (by omega));have L:=run_make_row' (P:=prog) 55 3 (I J 0) 8 underlying55 KW rfl J J m.length (by omega) (by omega);clear h;go_enter func231,ntmps231;go_upto_region 1 with fail
 go_cut [3] (fun p wc=>∃g c f b,p=Q (M ⟨g,0,U⟩)∧wU wc w.heap.size g c m f b 1∧Below w.heap.size w wc)
 case first =>
  go_region_with (go_at_call 265;refine(HC.o _ (by first | exact H.o | exact H.o.alloc _)).mono ?_;rintro e w1 ⟨gV,b,rfl,hO,z⟩;have HO:=H9 hO;have HB:=H9 z;clear hO z)
  all_goals (go_wp2_with fail;go_meet;first | exact⟨_,_,_,_,rfl,acy HO.o ((gP _ w).trans HB.o)⟩ | exact⟨_,_,_,_,rfl,acz HO.o HB.o⟩)
 case rest =>
  obtain⟨g,c,f,b,rfl,B,z⟩:=hcut;have C:=H9 B;clear B HC L H;go_wp2;go_loopw [4] (fun t wr=>∃n:Nat,0<n∧n<=m.length+1∧t=I J n∧wU wr w.heap.size g c m f b n∧Below w.heap.size w wr) (fun t _=>m.length+1-(intOf t).toNat)
  case atStart=>exact⟨1,by omega,by omega,rfl,C.o,z⟩
  case round =>
   obtain⟨n,D,hnl,rfl,B,hb⟩:=hrel;clear C z;have C:=H9 B;obtain⟨i,l,d,Zb,s⟩:=B;have c0:wr.cell? ⟨g,0,U⟩=M (Z f m.length b):=fJ wr g 0 _ _ _ i;have c1:wr.cell? ⟨g,1,U⟩=M (Z (M ⟨c,0,U⟩) m.length m.length):=fJ wr g 1 _ _ _ i;by_cases N:n+1<m.length
   . obtain⟨u,rfl,_,v⟩:=l.head (by omega);have cm:=v n (by omega);have cb:wr.cell? ⟨c,n,U⟩=M (I J (Sk.bk m n)):=by
      rw[d.cell (by omega)];unfold bkK;rw[if_pos (aL _)];rfl
     have cb1:wr.cell? ⟨c,n+1,U⟩=M (I J 0):=by
      rw[d.cell N];unfold bkK;rw[if_neg (by omega)]
     have fb1:wr.frozen? ⟨c,n+1,U⟩=F:=d.frozen _;have O:c≠g:=Gv i d (by decide);have G:u≠c:=by
      intro e;subst e;obtain⟨cc,S,_⟩:=d;have:=lF S l (by decide);simp[Value.ownBlock] at this
     have T:=Sk.Vw m n D;have y:=H9 (QL m (Sk.bk m n) m[n] g u c b wr.drew (by omega) (by omega) c0 c1 v (fun j hj0 hjn=>by
      refine(d.cell (show j<m.length by omega)).trans ?_;unfold bkK;rw[if_pos (by omega)];rfl))
     rw[<-Sk.YS m n D (by omega)] at y;have HK:Hid (wU (wr.drew.setCell ⟨c,n+1,U⟩ (I J (Sk.bk m (n+1)))) w.heap.size g c m (M ⟨u,0,U⟩) b (n+1)∧Below w.heap.size w (wr.drew.setCell ⟨c,n+1,U⟩ (I J (Sk.bk m (n+1))))):=by
      refine⟨⟨?_,?_,(d.set (n+1) (I J (Sk.bk m (n+1)))).congr (fun j _=>?_),Zb,s⟩,(hb.trans (gP _ _)).setCell s _⟩
      . rw[gB _ _ _ _ (fun e=>O e.symm)];exact i
      . exact iD.kept (w:=wr.drew) l ⟨rfl,rfl,rfl,by simp[World.setCell],fun k _ hne=>gB _ _ k _ (fun e=>hne (by rw[e]))⟩ (row:=M c) (fun a e=>by cases e;intro e;injection e with e;exact G e)
      . unfold bkK;by_cases e:j=n+1
        . subst e;rw[if_pos rfl,if_pos (aL _)];rfl
        . rw[if_neg e];by_cases e2:j<=n
          . rw[if_pos e2,if_pos (by omega)]
          . rw[if_neg e2,if_neg (by omega)]
     generalize Sk.bk m (n+1)=r at y HK;generalize Sk.bk m n=q at y cb T;generalize m[n]=x at y cm;have ht:decide ((n:Int)+1<m.length)=true:=by rw[bQ];omega
     have b1:(n:Int)<m.length:=by omega
     have b2:(n:Int)+1<m.length:=by omega
     have b3:IntKind.i64.wrap ((n:Int)+1)=(n:Int)+1:=lY (by omega) (by omega);have b4:(0:Int)<=(n:Int)+1:=by omega
     have b5:((n:Int)+1).toNat=n+1:=by omega
     have k1:(wr.setCell ⟨c,n+1,U⟩ (I J (r:Int))).cell? ⟨u,n,U⟩=M (I .u8 (x.toNat:Int)):=(fP wr ⟨c,n+1,U⟩ ⟨u,n,U⟩ _ (fun e=>by injection e with e _ _;exact G e.symm)).trans cm;have k2:(wr.setCell ⟨c,n+1,U⟩ (I J (r:Int))).cell? ⟨c,n,U⟩=M (I J (q:Int)):=(fP wr ⟨c,n+1,U⟩ ⟨c,n,U⟩ _ (fun e=>by injection e with _ e _;omega)).trans cb;clear i l d C v;go_wp2;go_region_held3 (fun w'=>w'.cell? ⟨g,0,U⟩=M (Z (M ⟨u,0,U⟩) m.length b)∧w'.cell? ⟨g,1,U⟩=M (Z (M ⟨c,0,U⟩) m.length m.length)∧w'.cell? ⟨u,n,U⟩=M (I .u8 (x.toNat:Int))∧w'.cell? ⟨c,n,U⟩=M (I J (q:Int))) (go_keep) (first | (go_at_call 266;refine y.o.mono ?_;rintro e w' ⟨rfl,rfl⟩))
     all_goals
      clear k1 k2;go_wp2;go_roundw
      case rel=>exact⟨n+1,by omega,by omega,by go_num,HK.o.1,HK.o.2⟩
      case measure=>simp[intOf];omega
   . have ht:decide ((n:Int)+1<m.length)=F:=by rw[bP];omega
     have y:Hid (mQ wr g m 0 ⟨f,b,c⟩):=⟨i,l.mono (ay _),d.congr (fun j hj=>by unfold bkK;rw[if_pos (by omega)])⟩;have HMo:Hid (∀a,f=M a->w.heap.size<=a.block):=fun a e=>(l.block a e).1;clear i l d C;go_wp2;go_ret;exact⟨g,⟨f,b,c⟩,rfl,y.o,Zb,s,HMo.o,hb⟩
end Go.Proofs.YtjmndjmhjleabaaGreatDoor