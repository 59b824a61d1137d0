import Derived.Deep.RegionHeld3
import Derived.Test.YtodmelffkfbalaaGreatDoorPk24
import Derived.Test.YtodmelffkfbalaaGreatDoorFlB
open Go.Value renaming int->I,slice->Z,pointer->Q
open Go.IntKind renaming i64->J
open Go.Ending renaming returned->Y
open Option renaming none->U,some->M
open Bool renaming false->F
open Go renaming World->X
set_option maxHeartbeats 1600000
open Go.Proofs.Tryz
namespace Go.Proofs.YtodmelffkfbalaaGreatDoor
open Go.RowKit
def Hh (m:ab)(j:Nat):Value:=I J (iV m j:Int)
structure kc where
 b:ag
 c:Nat
 a:Nat
def ei (w:X)(g:Nat)(m:ab)(h:Nat)(p:kc):Prop :=
 w.heap[g]? = M (.cells #[Z p.b m.length p.c,Z (M ⟨p.a,0,U⟩) m.length m.length,I J (h:Int)] 378 (0,0)) ∧
  bl w 0 5 p.b p.c m∧w.rowIs p.a 3 m.length (Hh m)
section
variable {w w':X} {g:Nat} {m:ab} {h:Nat} {p:kc}
theorem ei.f (a:ei w g m h p):g<w.heap.size:=(bO.1 a.1).1
theorem ei.r {S:Nat->Prop}(b:ei w g m h p)(c:am S w w')(d:¬S g)(e:¬S p.a)(f:∀a,p.b=M a->¬S a.block):ei w' g m h p :=
 ⟨c.y b.1 d,b.2.1.j c f,b.2.2.of_block (c.c _ b.2.2.lt e)⟩
theorem ei.a (a:ei w g m h p)(b:Below w.heap.size w w'):ei w' g m h p:=a.r (am.f (S:=fun _=>False) b) (fun e=>e) (fun e=>e) (fun _ _ e=>e)
theorem ei.j (l:ei w g m h p)(c:Nat):ei (w.setCell ⟨g,2,U⟩ (I J (c:Int))) g m c p∧w.grownBy (w.setCell ⟨g,2,U⟩ (I J (c:Int))) (M g):=by
 obtain⟨d,i,j⟩:=l;have b:w.grownBy (w.setCell ⟨g,2,U⟩ (I J (c:Int))) (M g):=⟨rfl,rfl,rfl,by simp[World.setCell],fun k _ f=>pP w _ k _ (fun e=>f (by rw[e]))⟩;refine⟨⟨?_,i.jY b ?_,j.setOther (Eo d j (by decide)) _⟩,b⟩
 . rw[aP w g 2 _ _ _ d];rfl
 . intro a e;have:=gH d i (by decide);rw[dq,e] at this;exact this
end
theorem Bw (w:X)(g:Nat)(m:ab)(h k:Nat)(c:UInt8)(p:kc)(l:ei w g m k p)(d:h<=m.length-1)(n:m.length<=140737488355328):
 Calls prog 352 #[Q (M ⟨g,0,U⟩),I J h,I .u8 c.toNat] w fun e w'=>e=Y (I J (ez m h c))∧w'=w:=by
 obtain⟨o,a,q⟩:=p;obtain⟨f,r,s⟩:=l;have i:=aq w g 0 _ _ _ f;have t:=aq w g 1 _ _ _ f;by_cases u:m.length=0
 . have e:m=[]:=ix u;subst e;have e:h=0:=by simp at d;exact d
   subst e;exact Sm g o a c w i
 . obtain⟨v,e,_,b⟩:=r.jK (by omega);have e:=e;subst e;refine FF m h c g v q a w (by omega) n i t b (fun j x y=>?_);exact s.cell (by omega)
theorem Np (w:X)(g:Nat)(m:ab)(h:Nat)(c:UInt8)(p:kc)(q:ei w g m h p)(L:h<=m.length-1)(hL:m.length<=1000000)(N:ez m h c=0):
 Calls prog 353 #[Q (M ⟨g,0,U⟩),I .u8 c.toNat] w fun e w'=>∃ao cap,e=Y (.tuple #[Z ao (h+1) cap,.bool F])∧bl w' w.heap.size 5 ao cap (m.take h++[c])∧ei w' g m 0 p∧w.grownBy w' (M g):=by
 have S:=aa q;have B:=Bw w g m h h c p q L (by omega);rw[N] at B;obtain⟨T,cap,gb⟩:=p;obtain⟨j,r,_⟩:=q;have c0:=aq w g 0 _ _ _ j;have c2:=aq w g 2 _ _ _ j;have f2:=aN w g 2 _ _ j;have W:=r.f.1;obtain⟨i0,s,t,u,v⟩:=info_parts gG;have Hi:=s;have lg:=aa t;have kZ:=aa u;have lq:=aa v
 have x:=S.o.j 0;have HC:=aa (FG (m.take h) h T cap (w.setCell ⟨g,2,U⟩ (I J 0)) (by rw[bU];omega) ((r.f.lH h (by omega)).lI x.2 (fun a e=>by
  have:=gH j r (by decide);rwa[dq,e] at this)) (by omega))
 go_enter func353,ntmps353;go_wp2_with fail;refine B.mono ?_;rintro e d ⟨rfl,hw⟩;subst hw;go_wp2_with fail;refine HC.o.mono ?_;rintro e w2 ⟨gL,C,rfl,hO,hB⟩;have D:=hO;have G:=aa hB
 have b:(d.setCell ⟨g,2,U⟩ (I J 0)).heap.size=d.heap.size:=by simp
 go_wp2_with (at_builtin;refine oe rfl (.tmp 30) (.tmp 32) 31 rfl d.heap.size 5 i0 underlying31 Hi lg.o kZ.o lq.o (l:=m.take h) (l2:=[c]) rfl (by rw[bU];omega) ((D.B (by omega)).r _) rfl rfl (aB.B _ _ _ _) (by omega) (by have:=G.o.size;simp at this ⊢;omega) ?_;intro jZ f H y z)
 go_ret2;have n:=G.o;rw[b] at n;have i:Below d.heap.size (d.setCell ⟨g,2,U⟩ (I J 0)) H:=(n.alloc (by have:=n.size;rw[b] at this;exact this) _).grown z (by have:=n.size;simp at this ⊢;omega) (fun k e=>by
  cases gL with
  | none=>simp[aw] at e
  | some a=>simp[aw] at e;have:=(D.a a rfl).1;omega)
 refine⟨jZ,f,rfl,y,x.1.a (show Below (d.setCell ⟨g,2,U⟩ (I J 0)).heap.size (d.setCell ⟨g,2,U⟩ (I J 0)) H by rw[b];exact i),og x.2 (BW _ (b▸i))⟩
theorem Mp (w:X)(g:Nat)(m:ab)(h:Nat)(c:UInt8)(p:kc)(a:ei w g m h p)(j:h<=m.length-1)(s:m.length<=1000000)(k:0<m.length)(l:ez m h c=m.length):
 Calls prog 353 #[Q (M ⟨g,0,U⟩),I .u8 c.toNat] w fun e w'=>e=Y (.tuple #[Z U 0 0,.bool true])∧ei w' g m 0 p∧w.grownBy w' (M g):=by
 have n:=aa a;have d:=Bw w g m h h c p a j (by omega);rw[l] at d;obtain⟨t,q,u⟩:=p;obtain⟨b,v,_⟩:=a;have x:=aq w g 0 _ _ _ b;have y:=aq w g 2 _ _ _ b;have z:=aN w g 2 _ _ b;have f:=n.o.j m.length;have i:=f.1.j 0;have B:((m.length:Int)==0)=F:=by rw[aQ];omega
 go_enter func353,ntmps353;go_wp2_with fail;refine d.mono ?_;rintro e C ⟨rfl,r⟩;subst r;go_wp2;go_ret2;exact⟨rfl,i.1,og f.2 i.2⟩
theorem Nq (w:X)(g:Nat)(m:ab)(h r:Nat)(c:UInt8)(p:kc)(n:ei w g m h p)(C:h<=m.length-1)(hL:m.length<=1000000)(D:ez m h c=r)(G:0<r)(H:r<m.length)(L:r<=h+1):
 Calls prog 353 #[Q (M ⟨g,0,U⟩),I .u8 c.toNat] w fun e w'=>∃ao cap,e=Y (.tuple #[Z ao (h+1-r) cap,.bool F])∧bl w' w.heap.size 5 ao cap (m.take (h+1-r))∧ei w' g m r p∧w.grownBy w' (M g):=by
 have N:=aa n;have z:=Bw w g m h h c p n C (by omega);rw[D] at z;have f:=n.f;obtain⟨t,cap,gb⟩:=p;obtain⟨q,u,_⟩:=n;have S:=aq w g 0 _ _ _ q;have T:=aq w g 2 _ _ _ q;have f2:w.frozen? ⟨g,2,U⟩=F:=aN w g 2 _ _ q;have W:m.length<=cap:=u.f.1;have v:=N.o.j r;have HC:=aa (FG (m.take (h+1-r)) (h+1-r) t cap (w.setCell ⟨g,2,U⟩ (I J (r:Int))).drew (by rw[bU];omega) ((u.f.lH (h+1-r) (by omega)).lI (og v.2 (vJ _ _)) (fun a e=>by
  have:=gH q u (by decide);rwa[dq,e] at this)) (by omega))
 have t0:((r:Int)==0)=F:=by rw[aQ];omega
 have t1:((r:Int)==m.length)=F:=by rw[aQ];omega
 have x:(w.setCell ⟨g,2,U⟩ (I J (r:Int))).drew.cell? ⟨g,0,U⟩=M (Z t m.length cap):=(sJ w ⟨g,2,U⟩ ⟨g,0,U⟩ _ (by simp)).trans S;have y:(w.setCell ⟨g,2,U⟩ (I J (r:Int))).drew.cell? ⟨g,2,U⟩=M (I J (r:Int)):=sI w ⟨g,2,U⟩ _ T;have b0:(r:Int)<=(h:Int)+1:=by omega
 have b1:(h:Int)+1-r<=cap:=by omega
 have b2:((h:Int)+1-r).toNat=h+1-r:=by omega
 have b3:IntKind.i64.wrap ((h:Int)+1)=(h:Int)+1:=ja (by omega) (by omega);have b4:IntKind.i64.wrap ((h:Int)+1-r)=(h:Int)+1-r:=ja (by omega) (by omega);go_enter func353,ntmps353;go_wp2_with fail;refine z.mono ?_;rintro e d ⟨rfl,hw⟩;subst hw;go_wp2;go_region_held3 (fun w'=>w'.cell? ⟨g,0,U⟩=M (Z t m.length cap)∧w'.cell? ⟨g,2,U⟩=M (I J (r:Int))) (go_keep) (first | (go_at_call 351;refine HC.o.mono ?_;rintro e w2 ⟨gL,i,rfl,j,s⟩;have c0':=(s.cell (p:=⟨g,0,U⟩) (by simpa using f)).trans x;have c2':=(s.cell (p:=⟨g,2,U⟩) (by simpa using f)).trans y;have HO:=aa j;have HB:=aa s;clear j s))
 all_goals
  go_wp2;go_ret2;have B:=HB.o;have k:(d.setCell ⟨g,2,U⟩ (I J (r:Int))).drew.heap.size=d.heap.size:=by simp
  have j:=HO.o;rw[k] at B j;have l:Below d.heap.size (d.setCell ⟨g,2,U⟩ (I J (r:Int))) w2:=(bj _ _).trans B;have b:(d.setCell ⟨g,2,U⟩ (I J (r:Int))).heap.size=d.heap.size:=k;refine⟨gL,i,rfl,j,v.1.a (by rw[b];exact l),og v.2 (BW _ (b▸l))⟩
theorem yI (w:X)(g:Nat)(m:ab)(h:Nat)(c:UInt8)(p:kc)(i:ei w g m h p)(d:h<=m.length-1)(j:m.length<=1000000):
 Calls prog 353 #[Q (M ⟨g,0,U⟩),I .u8 c.toNat] w fun e w'=>∃ao cap,e=Y (.tuple #[Z ao (dE m h c).length cap,.bool (eK m h c)])∧bl w' w.heap.size 5 ao cap (dE m h c)∧ei w' g m (fJ m h c) p∧w.grownBy w' (M g):=by
 have n:=Ba m h c;have b:=xF m h c;by_cases f:ez m h c=0
 . have a:eK m h c=F:=by unfold eK;rw[f,pO,cC,cC];omega
   have ha:fJ m h c=0:=by unfold fJ;rw[a,f];rfl
   rw[OV f,a,ha,show(m.take h++[c]).length=h+1 by simp;omega];exact Np w g m h c p i d j f
 . by_cases k:ez m h c=m.length
   . have a:eK m h c=true:=by unfold eK;rw[gZ,bR,bR];exact⟨by omega,k⟩
     have ha:fJ m h c=0:=by unfold fJ;rw[a];rfl
     rw[Gs a d,a,ha];refine(Mp w g m h c p i d j (by omega) k).mono ?_;rintro e w' ⟨rfl,l,o⟩;exact⟨U,0,rfl,bl.y _ _ _,l,o⟩
   . have a:eK m h c=F:=by unfold eK;rw[pO,cC,cC];exact Or.inr k
     have ha:fJ m h c=ez m h c:=by unfold fJ;rw[a];rfl
     rw[O0 (by omega) (by omega),a,ha,show(m.take (h+1-ez m h c)).length=h+1-ez m h c by rw[bU];omega];exact Nq w g m h _ c p i d j rfl (by omega) (by omega) b
structure dT (w:X)(g:Nat)(sk:Value)(ah:Int)(ln:Value)(fo:ag)(nf gy:Nat)(pl pt cd:Int):Prop where
 b:w.heap[g]? = M (.cells #[sk,I J ah,ln,Z fo nf gy,I J pl,I J pt,I J cd] 352 (0,0))
section
variable {w w':X} {g:Nat} {sk ln:Value} {fo:ag} {nf gy:Nat} {ah pl pt cd:Int}
theorem dT.j (h:dT w g sk ah ln fo nf gy pl pt cd):g<w.heap.size:=(bO.1 h.b).1
theorem dT.y (h:dT w g sk ah ln fo nf gy pl pt cd):w.cell? ⟨g,0,U⟩=M sk:=aq w g 0 _ _ _ h.b
theorem dT.H (h:dT w g sk ah ln fo nf gy pl pt cd):w.cell? ⟨g,1,U⟩=M (I J ah):=aq w g 1 _ _ _ h.b
theorem dT.mI (h:dT w g sk ah ln fo nf gy pl pt cd):w.cell? ⟨g,2,U⟩=M ln:=aq w g 2 _ _ _ h.b
theorem dT.jY (h:dT w g sk ah ln fo nf gy pl pt cd):w.cell? ⟨g,3,U⟩=M (Z fo nf gy):=aq w g 3 _ _ _ h.b
theorem dT.B (h:dT w g sk ah ln fo nf gy pl pt cd):w.cell? ⟨g,4,U⟩=M (I J pl):=aq w g 4 _ _ _ h.b
theorem dT.G (h:dT w g sk ah ln fo nf gy pl pt cd):w.cell? ⟨g,5,U⟩=M (I J pt):=aq w g 5 _ _ _ h.b
theorem dT.kU (h:dT w g sk ah ln fo nf gy pl pt cd):w.cell? ⟨g,6,U⟩=M (I J cd):=aq w g 6 _ _ _ h.b
theorem dT.a (h:dT w g sk ah ln fo nf gy pl pt cd)(j:Nat):w.frozen? ⟨g,j,U⟩=F:=aN w g j _ _ h.b
theorem dT.r {S:Nat->Prop}(h:dT w g sk ah ln fo nf gy pl pt cd)(a:am S w w')(b:¬S g):dT w' g sk ah ln fo nf gy pl pt cd:=⟨a.y h.b b⟩
theorem dT.lI (h:dT w g sk ah ln fo nf gy pl pt cd)(a:Below w.heap.size w w'):dT w' g sk ah ln fo nf gy pl pt cd:=⟨(a.block g h.j).trans h.b⟩
theorem dT.oF (h:dT w g sk ah ln fo nf gy pl pt cd)(v:Int):dT (w.setCell ⟨g,1,U⟩ (I J v)) g sk v ln fo nf gy pl pt cd:=⟨by rw[aP w g 1 _ _ _ h.b];rfl⟩
theorem dT.nD (h:dT w g sk ah ln fo nf gy pl pt cd)(a:ag)(b c:Nat):dT (w.setCell ⟨g,3,U⟩ (Z a b c)) g sk ah ln a b c pl pt cd:=⟨by rw[aP w g 3 _ _ _ h.b];rfl⟩
theorem dT.jK (h:dT w g sk ah ln fo nf gy pl pt cd)(v:Int):dT (w.setCell ⟨g,4,U⟩ (I J v)) g sk ah ln fo nf gy v pt cd:=⟨by rw[aP w g 4 _ _ _ h.b];rfl⟩
theorem dT.lH (h:dT w g sk ah ln fo nf gy pl pt cd)(v:Int):dT (w.setCell ⟨g,5,U⟩ (I J v)) g sk ah ln fo nf gy pl v cd:=⟨by rw[aP w g 5 _ _ _ h.b];rfl⟩
theorem dT.f (w:X)(g:Nat)(j:Nat)(v:Value):am (fun k=>k=g) w (w.setCell ⟨g,j,U⟩ v):=am.r (fun k=>k=g) w ⟨g,j,U⟩ v rfl
end
structure jP (w:X)(C:Nat->Prop)(m:ab)(s:bg)(gs gl:Nat)(p:kc)(fo:ag)(gy:Nat)(D:Nat->Prop):Prop where
 d:ei w gs m s.c p
 b:C gs∧C p.a∧∀a,p.b=M a->C a.block
 e:¬D gs∧¬D p.a∧∀a,p.b=M a->¬D a.block
 g:cP w (fun k=>C k∧D k) gl s.a
 f:aK w 0 148 2 fo gy s.e.length (aI (co s.e))
 c:∀a,fo=M a->C a.block∧¬D a.block
section
variable {w w':X} {C C' S' D:Nat->Prop} {m:ab} {s:bg} {gs gl:Nat} {p:kc} {fo:ag} {gy:Nat}
theorem jP.y (h:jP w C m s gs gl p fo gy D)(b:∀k,k<w.heap.size->C k->C' k):jP w C' m s gs gl p fo gy D :=
 ⟨h.d,⟨b _ h.d.f h.b.1,b _ h.d.2.2.lt h.b.2.1,fun a e=>b _ (h.d.2.1.a a e).2 (h.b.2.2 a e)⟩,h.e,h.g.a (fun k c e=>⟨b k c e.1,e.2⟩),h.f,fun a e=>⟨b _ (h.f.f a e).2 (h.c a e).1,(h.c a e).2⟩⟩
theorem jP.a (h:jP w C m s gs gl p fo gy D)(c:am S' w w')(b:∀k,C k->¬S' k):jP w' C m s gs gl p fo gy D :=
 ⟨h.d.r c (b _ h.b.1) (b _ h.b.2.1) (fun a e=>b _ (h.b.2.2 a e)),h.b,h.e,h.g.f c (fun k e=>b k e.1),h.f.j c (fun a e=>b _ (h.c a e).1),h.c⟩
theorem jP.B (h:jP w C m s gs gl p fo gy D)(a:Below w.heap.size w w'):jP w' C m s gs gl p fo gy D:=h.a (am.f (S:=fun _=>False) a) (fun _ _ e=>e)
theorem jP.r {a:bg}(h:jP w C m s gs gl p fo gy D)(b:a.c=s.c)(c:a.a=s.a)(d:a.e=s.e):jP w C m a gs gl p fo gy D :=
 ⟨b▸h.d,h.b,h.e,c▸h.g,d▸h.f,h.c⟩
theorem jP.j (h:jP w C m s gs gl p fo gy D):∀a,fo=M a->a.block≠gs∧a.block≠p.a∧∀b,p.b=M b->a.block≠b.block:=by
 intro a e;have j:=gH h.d.1 h.f (by decide);rw[dq,e] at j;refine⟨fun f=>j (by simp[aw,f]),fun f=>?_,fun b k f=>?_⟩
 . obtain⟨q,i,_⟩:=h.d.2.2;have g:=gH i h.f (by decide);rw[dq,e] at g;exact g (by simp[aw,f])
 . rcases h.d.2.1.2 with c | ⟨r,l,n,d,_,o,_⟩
   . have c:=c.1;rw[k] at c;injection c with c;cases c
   . rw[k] at d;injection d with d;injection d with d;have g:=gH o h.f (by decide);rw[dq,e] at g;exact g (by simp[aw,f,d])
end
inductive dK (w:X)(S:Nat->Prop)(g:Nat)(m:ab)(s:bg):Prop
 | dead (h:¬iJ s) (me:S g) (row:dT w g (Q U) (s.d:Int) (Q U) U 0 0 (s.b:Int) (s.f:Int) (s.g:Int))
 | live (h:iJ s) (me:S g) (gs gl:Nat) (p:kc) (fo:ag) (gy:Nat) (D:Nat->Prop) (row:dT w g (Q (M ⟨gs,0,U⟩)) (s.d:Int) (Q (M ⟨gl,0,U⟩)) fo s.e.length gy (s.b:Int) (s.f:Int) (s.g:Int)) (inn:jP w (fun k=>S k∧k≠g) m s gs gl p fo gy D)
section
variable {w w':X} {S S':Nat->Prop} {g:Nat} {m:ab} {s:bg}
theorem dK.y (h:dK w S g m s):g<w.heap.size:=by
 cases h with
 | dead h a row=>exact row.j
 | live h a b c p d e D row inn=>exact row.j
theorem dK.B (h:dK w S g m s):S g:=by
 cases h with
 | dead h a row=>exact a
 | live h a b c p d e D row inn=>exact a
theorem dK.j (h:dK w S g m s)(a:∀k,k<w.heap.size->S k->S' k):dK w S' g m s:=by
 cases h with
 | dead h b row=>exact .dead h (a g row.j b) row
 | live h b c d p f i D row inn=>exact .live h (a g row.j b) c d p f i D row (inn.y (fun k j e=>⟨a k j e.1,e.2⟩))
theorem dK.f (h:dK w S g m s)(b:am S' w w')(c:∀k,S k->¬S' k):dK w' S g m s:=by
 cases h with
 | dead h a row=>exact .dead h a (row.r b (c g a))
 | live h a d f p i j D row inn=>exact .live h a d f p i j D (row.r b (c g a)) (inn.a b (fun k e=>c k e.1))
theorem dK.jK (h:dK w S g m s)(a:Below w.heap.size w w'):dK w' S g m s:=h.f (am.f (S:=fun _=>False) a) (fun _ _ e=>e)
theorem dK.a (h:dK w S g m s):w.cell? ⟨g,4,U⟩=M (I J (s.b:Int))∧w.cell? ⟨g,5,U⟩=M (I J (s.f:Int))∧w.cell? ⟨g,6,U⟩=M (I J (s.g:Int))∧∀j,w.frozen? ⟨g,j,U⟩=F:=by
 cases h with
 | dead h a row=>exact⟨row.B,row.G,row.kU,row.a⟩
 | live h a b c p d e D row inn=>exact⟨row.B,row.G,row.kU,row.a⟩
end
theorem QH (w:X)(S:Nat->Prop)(g:Nat)(m:ab)(s:bg)(h:dK w S g m s):
 Calls prog 285 #[Q (M ⟨g,0,U⟩)] w fun e w'=>e=Y (I J (mN s:Int))∧w'=w:=by
 have j:=h.a;by_cases c:s.g=0
 . have f:((s.g:Int)==0)=true:=by rw[cR];omega
   by_cases b:s.b=6
   . have i:((s.b:Int) != 6)=F:=by rw[b];rfl
     have a:mN s=s.g:=by unfold mN;rw[if_neg (fun e=>e.2 b)]
     rw[a];generalize (s.g:Int)=d at *;generalize (s.b:Int)=pl at *;go_enter func285,ntmps285;go_wp2;go_ret;exact⟨rfl,rfl⟩
   . have i:((s.b:Int) != 6)=true:=by rw[di];omega
     have a:mN s=14:=by unfold mN;rw[if_pos ⟨c,b⟩]
     rw[a];generalize (s.g:Int)=d at *;generalize (s.b:Int)=pl at *;go_enter func285,ntmps285;go_wp2;go_ret;exact⟨rfl,rfl⟩
 . have f:((s.g:Int)==0)=F:=by rw[aQ];omega
   have a:mN s=s.g:=by unfold mN;rw[if_neg (fun e=>c e.1)]
   rw[a];generalize (s.g:Int)=d at *;generalize (s.b:Int)=pl at *;go_enter func285,ntmps285;go_wp2;go_ret;exact⟨rfl,rfl⟩
