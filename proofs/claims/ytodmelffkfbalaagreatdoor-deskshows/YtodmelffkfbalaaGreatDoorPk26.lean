import Derived.Deep.RegionHeld3
import Derived.Test.YtodmelffkfbalaaGreatDoorPk25
import Derived.Test.YtodmelffkfbalaaGreatDoorFlB
open Go.Value renaming int->I,slice->Z,pointer->Q
open Go.IntKind renaming i64->J
open Go.Ending renaming returned->Y
open Option renaming none->U,some->M
open Bool renaming false->F
open Go renaming World->X
set_option maxHeartbeats 1600000
open Go.Proofs.Tryz
namespace Go.Proofs.YtodmelffkfbalaaGreatDoor
open Go.RowKit
def Ho (m:ab)(j:Nat):Value:=I J (iW m j:Int)
structure ke where
 b:ag
 c:Nat
 a:Nat
def er (w:X)(g:Nat)(m:ab)(h:Nat)(p:ke):Prop :=
 w.heap[g]? = M (.cells #[Z p.b m.length p.c,Z (M ⟨p.a,0,U⟩) m.length m.length,I J (h:Int)] 378 (0,0)) ∧
  bl w 0 5 p.b p.c m∧w.rowIs p.a 3 m.length (Ho m)
section
variable {w w':X} {g:Nat} {m:ab} {h:Nat} {p:ke}
theorem er.e (a:er w g m h p):g<w.heap.size:=(bM.1 a.1).1
theorem er.j {S:Nat->Prop}(b:er w g m h p)(c:ak S w w')(d:¬S g)(e:¬S p.a)(f:∀a,p.b=M a->¬S a.block):er w' g m h p :=
 ⟨c.q b.1 d,b.2.1.j c f,b.2.2.of_block (c.c _ b.2.2.lt e)⟩
theorem er.a (a:er w g m h p)(b:Below w.heap.size w w'):er w' g m h p:=a.j (ak.e (S:=fun _=>False) b) (fun e=>e) (fun e=>e) (fun _ _ e=>e)
theorem er.f (l:er w g m h p)(c:Nat):er (w.setCell ⟨g,2,U⟩ (I J (c:Int))) g m c p∧w.grownBy (w.setCell ⟨g,2,U⟩ (I J (c:Int))) (M g):=by
 obtain⟨d,i,j⟩:=l;have b:w.grownBy (w.setCell ⟨g,2,U⟩ (I J (c:Int))) (M g):=⟨rfl,rfl,rfl,by simp[World.setCell],fun k _ f=>pU w _ k _ (fun e=>f (by rw[e]))⟩;refine⟨⟨?_,i.G b ?_,j.setOther (Ex d j (by decide)) _⟩,b⟩
 . rw[aR w g 2 _ _ _ d];rfl
 . intro a e;have:=gG d i (by decide);rw[dp,e] at this;exact this
end
theorem Bs (w:X)(g:Nat)(m:ab)(h k:Nat)(c:UInt8)(p:ke)(l:er w g m k p)(d:h<=m.length-1)(n:m.length<=140737488355328):
 Calls prog 352 #[Q (M ⟨g,0,U⟩),I J h,I .u8 c.toNat] w fun e w'=>e=Y (I J (eE m h c))∧w'=w:=by
 obtain⟨o,a,q⟩:=p;obtain⟨f,r,s⟩:=l;have i:=aq w g 0 _ _ _ f;have t:=aq w g 1 _ _ _ f;by_cases u:m.length=0
 . have e:m=[]:=iz u;subst e;have e:h=0:=by simp at d;exact d
   subst e;exact R6 g o a c w i
 . obtain⟨v,e,_,b⟩:=r.E (by omega);have e:=e;subst e;refine FL m h c g v q a w (by omega) n i t b (fun j x y=>?_);exact s.cell (by omega)
theorem NB (w:X)(g:Nat)(m:ab)(h:Nat)(c:UInt8)(p:ke)(q:er w g m h p)(L:h<=m.length-1)(hL:m.length<=1000000)(N:eE m h c=0):
 Calls prog 353 #[Q (M ⟨g,0,U⟩),I .u8 c.toNat] w fun e w'=>∃ao cap,e=Y (.tuple #[Z ao (h+1) cap,.bool F])∧bl w' w.heap.size 5 ao cap (m.take h++[c])∧er w' g m 0 p∧w.grownBy w' (M g):=by
 have S:=aa q;have B:=Bs w g m h h c p q L (by omega);rw[N] at B;obtain⟨T,cap,gb⟩:=p;obtain⟨j,r,_⟩:=q;have c0:=aq w g 0 _ _ _ j;have c2:=aq w g 2 _ _ _ j;have f2:=aP w g 2 _ _ j;have W:=r.f.1;obtain⟨i0,s,t,u,v⟩:=info_parts gm;have Hi:=s;have kS:=aa t;have kM:=aa u;have kT:=aa v
 have x:=S.o.f 0;have HC:=aa (FM (m.take h) h T cap (w.setCell ⟨g,2,U⟩ (I J 0)) (by rw[bV];omega) ((r.f.jZ h (by omega)).kW x.2 (fun a e=>by
  have:=gG j r (by decide);rwa[dp,e] at this)) (by omega))
 go_enter func353,ntmps353;go_wp2_with fail;refine B.mono ?_;rintro e d ⟨rfl,hw⟩;subst hw;go_wp2_with fail;refine HC.o.mono ?_;rintro e w2 ⟨gL,C,rfl,hO,hB⟩;have D:=hO;have G:=aa hB
 have b:(d.setCell ⟨g,2,U⟩ (I J 0)).heap.size=d.heap.size:=by simp
 go_wp2_with (at_builtin;refine ld rfl (.tmp 30) (.tmp 32) 31 rfl d.heap.size 5 i0 underlying31 Hi kS.o kM.o kT.o (l:=m.take h) (l2:=[c]) rfl (by rw[bV];omega) ((D.y (by omega)).a _) rfl rfl (az.f _ _ _ _) (by omega) (by have:=G.o.size;simp at this ⊢;omega) ?_;intro jR f H y z)
 go_ret2;have n:=G.o;rw[b] at n;have i:Below d.heap.size (d.setCell ⟨g,2,U⟩ (I J 0)) H:=(n.alloc (by have:=n.size;rw[b] at this;exact this) _).grown z (by have:=n.size;simp at this ⊢;omega) (fun k e=>by
  cases gL with
  | none=>simp[aw] at e
  | some a=>simp[aw] at e;have:=(D.e a rfl).1;omega)
 refine⟨jR,f,rfl,y,x.1.a (show Below (d.setCell ⟨g,2,U⟩ (I J 0)).heap.size (d.setCell ⟨g,2,U⟩ (I J 0)) H by rw[b];exact i),op x.2 (BY _ (b▸i))⟩
theorem MD (w:X)(g:Nat)(m:ab)(h:Nat)(c:UInt8)(p:ke)(a:er w g m h p)(j:h<=m.length-1)(s:m.length<=1000000)(k:0<m.length)(l:eE m h c=m.length):
 Calls prog 353 #[Q (M ⟨g,0,U⟩),I .u8 c.toNat] w fun e w'=>e=Y (.tuple #[Z U 0 0,.bool true])∧er w' g m 0 p∧w.grownBy w' (M g):=by
 have n:=aa a;have d:=Bs w g m h h c p a j (by omega);rw[l] at d;obtain⟨t,q,u⟩:=p;obtain⟨b,v,_⟩:=a;have x:=aq w g 0 _ _ _ b;have y:=aq w g 2 _ _ _ b;have z:=aP w g 2 _ _ b;have f:=n.o.f m.length;have i:=f.1.f 0;have B:((m.length:Int)==0)=F:=by rw[aO];omega
 go_enter func353,ntmps353;go_wp2_with fail;refine d.mono ?_;rintro e C ⟨rfl,r⟩;subst r;go_wp2;go_ret2;exact⟨rfl,i.1,op f.2 i.2⟩
theorem NE (w:X)(g:Nat)(m:ab)(h r:Nat)(c:UInt8)(p:ke)(n:er w g m h p)(C:h<=m.length-1)(hL:m.length<=1000000)(D:eE m h c=r)(G:0<r)(H:r<m.length)(L:r<=h+1):
 Calls prog 353 #[Q (M ⟨g,0,U⟩),I .u8 c.toNat] w fun e w'=>∃ao cap,e=Y (.tuple #[Z ao (h+1-r) cap,.bool F])∧bl w' w.heap.size 5 ao cap (m.take (h+1-r))∧er w' g m r p∧w.grownBy w' (M g):=by
 have N:=aa n;have z:=Bs w g m h h c p n C (by omega);rw[D] at z;have f:=n.e;obtain⟨t,cap,gb⟩:=p;obtain⟨q,u,_⟩:=n;have S:=aq w g 0 _ _ _ q;have T:=aq w g 2 _ _ _ q;have f2:w.frozen? ⟨g,2,U⟩=F:=aP w g 2 _ _ q;have W:m.length<=cap:=u.f.1;have v:=N.o.f r;have HC:=aa (FM (m.take (h+1-r)) (h+1-r) t cap (w.setCell ⟨g,2,U⟩ (I J (r:Int))).drew (by rw[bV];omega) ((u.f.jZ (h+1-r) (by omega)).kW (op v.2 (vK _ _)) (fun a e=>by
  have:=gG q u (by decide);rwa[dp,e] at this)) (by omega))
 have t0:((r:Int)==0)=F:=by rw[aO];omega
 have t1:((r:Int)==m.length)=F:=by rw[aO];omega
 have x:(w.setCell ⟨g,2,U⟩ (I J (r:Int))).drew.cell? ⟨g,0,U⟩=M (Z t m.length cap):=(sN w ⟨g,2,U⟩ ⟨g,0,U⟩ _ (by simp)).trans S;have y:(w.setCell ⟨g,2,U⟩ (I J (r:Int))).drew.cell? ⟨g,2,U⟩=M (I J (r:Int)):=sM w ⟨g,2,U⟩ _ T;have b0:(r:Int)<=(h:Int)+1:=by omega
 have b1:(h:Int)+1-r<=cap:=by omega
 have b2:((h:Int)+1-r).toNat=h+1-r:=by omega
 have b3:IntKind.i64.wrap ((h:Int)+1)=(h:Int)+1:=gF (by omega) (by omega);have b4:IntKind.i64.wrap ((h:Int)+1-r)=(h:Int)+1-r:=gF (by omega) (by omega);go_enter func353,ntmps353;go_wp2_with fail;refine z.mono ?_;rintro e d ⟨rfl,hw⟩;subst hw;go_wp2;go_region_held3 (fun w'=>w'.cell? ⟨g,0,U⟩=M (Z t m.length cap)∧w'.cell? ⟨g,2,U⟩=M (I J (r:Int))) (go_keep) (first | (go_at_call 351;refine HC.o.mono ?_;rintro e w2 ⟨gL,i,rfl,j,s⟩;have c0':=(s.cell (p:=⟨g,0,U⟩) (by simpa using f)).trans x;have c2':=(s.cell (p:=⟨g,2,U⟩) (by simpa using f)).trans y;have HO:=aa j;have HB:=aa s;clear j s))
 all_goals
  go_wp2;go_ret2;have B:=HB.o;have k:(d.setCell ⟨g,2,U⟩ (I J (r:Int))).drew.heap.size=d.heap.size:=by simp
  have j:=HO.o;rw[k] at B j;have l:Below d.heap.size (d.setCell ⟨g,2,U⟩ (I J (r:Int))) w2:=(bg _ _).trans B;have b:(d.setCell ⟨g,2,U⟩ (I J (r:Int))).heap.size=d.heap.size:=k;refine⟨gL,i,rfl,j,v.1.a (by rw[b];exact l),op v.2 (BY _ (b▸l))⟩
theorem yF (w:X)(g:Nat)(m:ab)(h:Nat)(c:UInt8)(p:ke)(i:er w g m h p)(d:h<=m.length-1)(j:m.length<=1000000):
 Calls prog 353 #[Q (M ⟨g,0,U⟩),I .u8 c.toNat] w fun e w'=>∃ao cap,e=Y (.tuple #[Z ao (dD m h c).length cap,.bool (eU m h c)])∧bl w' w.heap.size 5 ao cap (dD m h c)∧er w' g m (fK m h c) p∧w.grownBy w' (M g):=by
 have n:=A7 m h c;have b:=xB m h c;by_cases f:eE m h c=0
 . have a:eU m h c=F:=by unfold eU;rw[f,pT,cz,cz];omega
   have ha:fK m h c=0:=by unfold fK;rw[a,f];rfl
   rw[O6 f,a,ha,show(m.take h++[c]).length=h+1 by simp;omega];exact NB w g m h c p i d j f
 . by_cases k:eE m h c=m.length
   . have a:eU m h c=true:=by unfold eU;rw[hQ,bN,bN];exact⟨by omega,k⟩
     have ha:fK m h c=0:=by unfold fK;rw[a];rfl
     rw[Gv a d,a,ha];refine(MD w g m h c p i d j (by omega) k).mono ?_;rintro e w' ⟨rfl,l,o⟩;exact⟨U,0,rfl,bl.q _ _ _,l,o⟩
   . have a:eU m h c=F:=by unfold eU;rw[pT,cz,cz];exact Or.inr k
     have ha:fK m h c=eE m h c:=by unfold fK;rw[a];rfl
     rw[Pi (by omega) (by omega),a,ha,show(m.take (h+1-eE m h c)).length=h+1-eE m h c by rw[bV];omega];exact NE w g m h _ c p i d j rfl (by omega) (by omega) b
structure dV (w:X)(g:Nat)(sk:Value)(ah:Int)(ln:Value)(fo:ag)(nf fZ:Nat)(pl pt cd:Int):Prop where
 b:w.heap[g]? = M (.cells #[sk,I J ah,ln,Z fo nf fZ,I J pl,I J pt,I J cd] 352 (0,0))
section
variable {w w':X} {g:Nat} {sk ln:Value} {fo:ag} {nf fZ:Nat} {ah pl pt cd:Int}
theorem dV.f (h:dV w g sk ah ln fo nf fZ pl pt cd):g<w.heap.size:=(bM.1 h.b).1
theorem dV.q (h:dV w g sk ah ln fo nf fZ pl pt cd):w.cell? ⟨g,0,U⟩=M sk:=aq w g 0 _ _ _ h.b
theorem dV.B (h:dV w g sk ah ln fo nf fZ pl pt cd):w.cell? ⟨g,1,U⟩=M (I J ah):=aq w g 1 _ _ _ h.b
theorem dV.lG (h:dV w g sk ah ln fo nf fZ pl pt cd):w.cell? ⟨g,2,U⟩=M ln:=aq w g 2 _ _ _ h.b
theorem dV.G (h:dV w g sk ah ln fo nf fZ pl pt cd):w.cell? ⟨g,3,U⟩=M (Z fo nf fZ):=aq w g 3 _ _ _ h.b
theorem dV.r (h:dV w g sk ah ln fo nf fZ pl pt cd):w.cell? ⟨g,4,U⟩=M (I J pl):=aq w g 4 _ _ _ h.b
theorem dV.y (h:dV w g sk ah ln fo nf fZ pl pt cd):w.cell? ⟨g,5,U⟩=M (I J pt):=aq w g 5 _ _ _ h.b
theorem dV.jL (h:dV w g sk ah ln fo nf fZ pl pt cd):w.cell? ⟨g,6,U⟩=M (I J cd):=aq w g 6 _ _ _ h.b
theorem dV.a (h:dV w g sk ah ln fo nf fZ pl pt cd)(j:Nat):w.frozen? ⟨g,j,U⟩=F:=aP w g j _ _ h.b
theorem dV.j {S:Nat->Prop}(h:dV w g sk ah ln fo nf fZ pl pt cd)(a:ak S w w')(b:¬S g):dV w' g sk ah ln fo nf fZ pl pt cd:=⟨a.q h.b b⟩
theorem dV.kW (h:dV w g sk ah ln fo nf fZ pl pt cd)(a:Below w.heap.size w w'):dV w' g sk ah ln fo nf fZ pl pt cd:=⟨(a.block g h.f).trans h.b⟩
theorem dV.nE (h:dV w g sk ah ln fo nf fZ pl pt cd)(v:Int):dV (w.setCell ⟨g,1,U⟩ (I J v)) g sk v ln fo nf fZ pl pt cd:=⟨by rw[aR w g 1 _ _ _ h.b];rfl⟩
theorem dV.lH (h:dV w g sk ah ln fo nf fZ pl pt cd)(a:ag)(b c:Nat):dV (w.setCell ⟨g,3,U⟩ (Z a b c)) g sk ah ln a b c pl pt cd:=⟨by rw[aR w g 3 _ _ _ h.b];rfl⟩
theorem dV.E (h:dV w g sk ah ln fo nf fZ pl pt cd)(v:Int):dV (w.setCell ⟨g,4,U⟩ (I J v)) g sk ah ln fo nf fZ v pt cd:=⟨by rw[aR w g 4 _ _ _ h.b];rfl⟩
theorem dV.jZ (h:dV w g sk ah ln fo nf fZ pl pt cd)(v:Int):dV (w.setCell ⟨g,5,U⟩ (I J v)) g sk ah ln fo nf fZ pl v cd:=⟨by rw[aR w g 5 _ _ _ h.b];rfl⟩
theorem dV.e (w:X)(g:Nat)(j:Nat)(v:Value):ak (fun k=>k=g) w (w.setCell ⟨g,j,U⟩ v):=ak.j (fun k=>k=g) w ⟨g,j,U⟩ v rfl
end
structure jT (w:X)(C:Nat->Prop)(m:ab)(s:bi)(gs gl:Nat)(p:ke)(fo:ag)(fZ:Nat)(D:Nat->Prop):Prop where
 d:er w gs m s.c p
 b:C gs∧C p.a∧∀a,p.b=M a->C a.block
 e:¬D gs∧¬D p.a∧∀a,p.b=M a->¬D a.block
 g:cN w (fun k=>C k∧D k) gl s.a
 f:aL w 0 148 2 fo fZ s.e.length (aJ (cf s.e))
 c:∀a,fo=M a->C a.block∧¬D a.block
section
variable {w w':X} {C C' S' D:Nat->Prop} {m:ab} {s:bi} {gs gl:Nat} {p:ke} {fo:ag} {fZ:Nat}
theorem jT.r (h:jT w C m s gs gl p fo fZ D)(b:∀k,k<w.heap.size->C k->C' k):jT w C' m s gs gl p fo fZ D :=
 ⟨h.d,⟨b _ h.d.e h.b.1,b _ h.d.2.2.lt h.b.2.1,fun a e=>b _ (h.d.2.1.e a e).2 (h.b.2.2 a e)⟩,h.e,h.g.a (fun k c e=>⟨b k c e.1,e.2⟩),h.f,fun a e=>⟨b _ (h.f.e a e).2 (h.c a e).1,(h.c a e).2⟩⟩
theorem jT.a (h:jT w C m s gs gl p fo fZ D)(c:ak S' w w')(b:∀k,C k->¬S' k):jT w' C m s gs gl p fo fZ D :=
 ⟨h.d.j c (b _ h.b.1) (b _ h.b.2.1) (fun a e=>b _ (h.b.2.2 a e)),h.b,h.e,h.g.e c (fun k e=>b k e.1),h.f.f c (fun a e=>b _ (h.c a e).1),h.c⟩
theorem jT.y (h:jT w C m s gs gl p fo fZ D)(a:Below w.heap.size w w'):jT w' C m s gs gl p fo fZ D:=h.a (ak.e (S:=fun _=>False) a) (fun _ _ e=>e)
theorem jT.q {a:bi}(h:jT w C m s gs gl p fo fZ D)(b:a.c=s.c)(c:a.a=s.a)(d:a.e=s.e):jT w C m a gs gl p fo fZ D :=
 ⟨b▸h.d,h.b,h.e,c▸h.g,d▸h.f,h.c⟩
theorem jT.j (h:jT w C m s gs gl p fo fZ D):∀a,fo=M a->a.block≠gs∧a.block≠p.a∧∀b,p.b=M b->a.block≠b.block:=by
 intro a e;have j:=gG h.d.1 h.f (by decide);rw[dp,e] at j;refine⟨fun f=>j (by simp[aw,f]),fun f=>?_,fun b k f=>?_⟩
 . obtain⟨q,i,_⟩:=h.d.2.2;have g:=gG i h.f (by decide);rw[dp,e] at g;exact g (by simp[aw,f])
 . rcases h.d.2.1.2 with c | ⟨r,l,n,d,_,o,_⟩
   . have c:=c.1;rw[k] at c;injection c with c;cases c
   . rw[k] at d;injection d with d;injection d with d;have g:=gG o h.f (by decide);rw[dp,e] at g;exact g (by simp[aw,f,d])
end
inductive dK (w:X)(S:Nat->Prop)(g:Nat)(m:ab)(s:bi):Prop
 | dead (h:¬iJ s) (me:S g) (row:dV w g (Q U) (s.d:Int) (Q U) U 0 0 (s.b:Int) (s.f:Int) (s.g:Int))
 | live (h:iJ s) (me:S g) (gs gl:Nat) (p:ke) (fo:ag) (fZ:Nat) (D:Nat->Prop) (row:dV w g (Q (M ⟨gs,0,U⟩)) (s.d:Int) (Q (M ⟨gl,0,U⟩)) fo s.e.length fZ (s.b:Int) (s.f:Int) (s.g:Int)) (inn:jT w (fun k=>S k∧k≠g) m s gs gl p fo fZ D)
section
variable {w w':X} {S S':Nat->Prop} {g:Nat} {m:ab} {s:bi}
theorem dK.q (h:dK w S g m s):g<w.heap.size:=by
 cases h with
 | dead h a row=>exact row.f
 | live h a b c p d e D row inn=>exact row.f
theorem dK.r (h:dK w S g m s):S g:=by
 cases h with
 | dead h a row=>exact a
 | live h a b c p d e D row inn=>exact a
theorem dK.f (h:dK w S g m s)(a:∀k,k<w.heap.size->S k->S' k):dK w S' g m s:=by
 cases h with
 | dead h b row=>exact .dead h (a g row.f b) row
 | live h b c d p f i D row inn=>exact .live h (a g row.f b) c d p f i D row (inn.r (fun k j e=>⟨a k j e.1,e.2⟩))
theorem dK.e (h:dK w S g m s)(b:ak S' w w')(c:∀k,S k->¬S' k):dK w' S g m s:=by
 cases h with
 | dead h a row=>exact .dead h a (row.j b (c g a))
 | live h a d f p i j D row inn=>exact .live h a d f p i j D (row.j b (c g a)) (inn.a b (fun k e=>c k e.1))
theorem dK.E (h:dK w S g m s)(a:Below w.heap.size w w'):dK w' S g m s:=h.e (ak.e (S:=fun _=>False) a) (fun _ _ e=>e)
theorem dK.a (h:dK w S g m s):w.cell? ⟨g,4,U⟩=M (I J (s.b:Int))∧w.cell? ⟨g,5,U⟩=M (I J (s.f:Int))∧w.cell? ⟨g,6,U⟩=M (I J (s.g:Int))∧∀j,w.frozen? ⟨g,j,U⟩=F:=by
 cases h with
 | dead h a row=>exact⟨row.r,row.y,row.jL,row.a⟩
 | live h a b c p d e D row inn=>exact⟨row.r,row.y,row.jL,row.a⟩
end
theorem QN (w:X)(S:Nat->Prop)(g:Nat)(m:ab)(s:bi)(h:dK w S g m s):
 Calls prog 285 #[Q (M ⟨g,0,U⟩)] w fun e w'=>e=Y (I J (mR s:Int))∧w'=w:=by
 have j:=h.a;by_cases c:s.g=0
 . have f:((s.g:Int)==0)=true:=by rw[cJ];omega
   by_cases b:s.b=6
   . have i:((s.b:Int) != 6)=F:=by rw[b];rfl
     have a:mR s=s.g:=by unfold mR;rw[if_neg (fun e=>e.2 b)]
     rw[a];generalize (s.g:Int)=d at *;generalize (s.b:Int)=pl at *;go_enter func285,ntmps285;go_wp2;go_ret;exact⟨rfl,rfl⟩
   . have i:((s.b:Int) != 6)=true:=by rw[dh];omega
     have a:mR s=14:=by unfold mR;rw[if_pos ⟨c,b⟩]
     rw[a];generalize (s.g:Int)=d at *;generalize (s.b:Int)=pl at *;go_enter func285,ntmps285;go_wp2;go_ret;exact⟨rfl,rfl⟩
 . have f:((s.g:Int)==0)=F:=by rw[aO];omega
   have a:mR s=s.g:=by unfold mR;rw[if_neg (fun e=>c e.1)]
   rw[a];generalize (s.g:Int)=d at *;generalize (s.b:Int)=pl at *;go_enter func285,ntmps285;go_wp2;go_ret;exact⟨rfl,rfl⟩
