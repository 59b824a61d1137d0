/- Small texts, one behind the other: SkR, FmA, RfField, RfChA, RfFirst. -/
import Derived.Deep.RegionHeld3
import Derived.Test.YthhklgjjnaeaoaaGreatDoorPk23
import Derived.Test.YthhklgjjnaeaoaaGreatDoorFlB
open Go.Value renaming int->I,slice->Z,pointer->Q
open Go.IntKind renaming i64->J
open Go.Ending renaming returned->Y
open Option renaming none->U,some->M
open Bool renaming false->F
open Go renaming World->X
set_option maxHeartbeats 1600000
open Go.Proofs.Tryz
namespace Go.Proofs.YthhklgjjnaeaoaaGreatDoor
open Go.RowKit
def bkR (m:av)(j:Nat):Value:=I J (Sk.bk m j:Int)
structure Ox where
 mo:ak
 cap:Nat
 gb:Nat
def mq (w:X)(g:Nat)(m:av)(h:Nat)(p:Ox):Prop :=
 w.heap[g]? = M (.cells #[Z p.mo m.length p.cap,Z (M ⟨p.gb,0,U⟩) m.length m.length,I J (h:Int)] 341 (0,0)) ∧
  iA w 0 5 p.mo p.cap m∧w.rowIs p.gb 3 m.length (bkR m)
section
variable {w w':X} {g:Nat} {m:av} {h:Nat} {p:Ox}
theorem mq.lt (a:mq w g m h p):g<w.heap.size:=(aL.1 a.1).1
theorem mq.turns {S:Nat->Prop}(b:mq w g m h p)(c:Turns S w w')(d:¬S g)(e:¬S p.gb)(f:∀a,p.mo=M a->¬S a.block):mq w' g m h p :=
 ⟨c.row b.1 d,b.2.1.turns c f,b.2.2.of_block (c.block _ b.2.2.lt e)⟩
theorem mq.stay (a:mq w g m h p)(b:Below w.heap.size w w'):mq w' g m h p:=a.turns (Turns.of_below (S:=fun _=>False) b) (fun e=>e) (fun e=>e) (fun _ _ e=>e)
theorem mq.put (l:mq w g m h p)(c:Nat):mq (w.setCell ⟨g,2,U⟩ (I J (c:Int))) g m c p∧w.grownBy (w.setCell ⟨g,2,U⟩ (I J (c:Int))) (M g):=by
 obtain⟨d,i,j⟩:=l;have b:w.grownBy (w.setCell ⟨g,2,U⟩ (I J (c:Int))) (M g):=⟨rfl,rfl,rfl,by simp[World.setCell],fun k _ f=>fK w _ k _ (fun e=>f (by rw[e]))⟩;refine⟨⟨?_,i.kept b ?_,j.setOther (Gi d j (by decide)) _⟩,b⟩
 . rw[fu w g 2 _ _ _ d];rfl
 . intro a e;have:=kP d i (by decide);rw[gD,e] at this;exact this
end
theorem abP (w:X)(g:Nat)(m:av)(h k:Nat)(c:UInt8)(p:Ox)(l:mq w g m k p)(d:h<=m.length-1)(n:m.length<=140737488355328):
 Calls prog 312 #[Q (M ⟨g,0,U⟩),I J h,I .u8 c.toNat] w fun e w'=>e=Y (I J (Sk.fit m h c))∧w'=w:=by
 obtain⟨o,a,q⟩:=p;obtain⟨f,r,s⟩:=l;have i:=eZ w g 0 _ _ _ f;have t:=eZ w g 1 _ _ _ f;by_cases u:m.length=0
 . have e:m=[]:=dh u;subst e;have e:h=0:=by simp at d;exact d
   subst e;exact Xg g o a c w i
 . obtain⟨v,e,_,b⟩:=r.head (by omega);have e:=e;subst e;refine QD m h c g v q a w (by omega) n i t b (fun j x y=>?_);exact s.cell (by omega)
theorem Oy (w:X)(g:Nat)(m:av)(h:Nat)(c:UInt8)(p:Ox)(q:mq w g m h p)(L:h<=m.length-1)(hL:m.length<=1000000)(N:Sk.fit m h c=0):
 Calls prog 313 #[Q (M ⟨g,0,U⟩),I .u8 c.toNat] w fun e w'=>∃ao cap,e=Y (.tuple #[Z ao (h+1) cap,.bool F])∧iA w' w.heap.size 5 ao cap (m.take h++[c])∧mq w' g m 0 p∧w.grownBy w' (M g):=by
 have S:=H9 q;have B:=abP w g m h h c p q L (by omega);rw[N] at B;obtain⟨T,cap,gb⟩:=p;obtain⟨j,r,_⟩:=q;have c0:=eZ w g 0 _ _ _ j;have c2:=eZ w g 2 _ _ _ j;have f2:=fq w g 2 _ _ j;have W:=r.tQ.1;obtain⟨i0,s,t,u,v⟩:=info_parts jJ;have Hi:=s;have kY:=H9 t;have kT:=H9 u;have kZ:=H9 v
 have x:=S.o.put 0;have HC:=H9 (QE (m.take h) h T cap (w.setCell ⟨g,2,U⟩ (I J 0)) (by rw[bW];omega) ((r.tQ.first h (by omega)).grown x.2 (fun a e=>by
  have:=kP j r (by decide);rwa[gD,e] at this)) (by omega))
 go_enter func313,ntmps313;go_wp2_with fail
 refine B.mono ?_;rintro e d ⟨rfl,hw⟩;subst hw;go_wp2_with fail
 refine HC.o.mono ?_;rintro e w2 ⟨gJ,C,rfl,hO,hB⟩;have D:=hO;have G:=H9 hB
 have b:(d.setCell ⟨g,2,U⟩ (I J 0)).heap.size=d.heap.size:=by simp
 go_wp2_with (at_builtin;refine jo rfl (.tmp 30) (.tmp 32) 31 rfl d.heap.size 5 i0 underlying31 Hi kY.o kT.o kZ.o (l:=m.take h) (l2:=[c]) rfl (by rw[bW];omega) ((D.mono (by omega)).alloc _) rfl rfl (gN.one _ _ _ _) (by omega) (by have:=G.o.size;simp at this ⊢;omega) ?_;intro jZ f H y z)
 go_ret2;have n:=G.o;rw[b] at n;have i:Below d.heap.size (d.setCell ⟨g,2,U⟩ (I J 0)) H:=(n.alloc (by have:=n.size;rw[b] at this;exact this) _).grown z (by have:=n.size;simp at this ⊢;omega) (fun k e=>by
  cases gJ with
  | none=>simp[fV] at e
  | some a=>simp[fV] at e;have:=(D.block a rfl).1;omega)
 refine⟨jZ,f,rfl,y,x.1.stay (show Below (d.setCell ⟨g,2,U⟩ (I J 0)).heap.size (d.setCell ⟨g,2,U⟩ (I J 0)) H by rw[b];exact i),jM x.2 (AQ _ (b▸i))⟩
theorem Lp (w:X)(g:Nat)(m:av)(h:Nat)(c:UInt8)(p:Ox)(a:mq w g m h p)(j:h<=m.length-1)(s:m.length<=1000000)(k:0<m.length)(l:Sk.fit m h c=m.length):
 Calls prog 313 #[Q (M ⟨g,0,U⟩),I .u8 c.toNat] w fun e w'=>e=Y (.tuple #[Z U 0 0,.bool true])∧mq w' g m 0 p∧w.grownBy w' (M g):=by
 have n:=H9 a;have d:=abP w g m h h c p a j (by omega);rw[l] at d;obtain⟨t,q,u⟩:=p;obtain⟨b,v,_⟩:=a;have x:=eZ w g 0 _ _ _ b;have y:=eZ w g 2 _ _ _ b;have z:=fq w g 2 _ _ b;have f:=n.o.put m.length;have i:=f.1.put 0;have B:((m.length:Int)==0)=F:=by rw[aR];omega
 go_enter func313,ntmps313;go_wp2_with fail
 refine d.mono ?_;rintro e C ⟨rfl,r⟩;subst r;go_wp2;go_ret2;exact⟨rfl,i.1,jM f.2 i.2⟩
theorem Oz (w:X)(g:Nat)(m:av)(h r:Nat)(c:UInt8)(p:Ox)(n:mq w g m h p)(C:h<=m.length-1)(hL:m.length<=1000000)(D:Sk.fit m h c=r)(G:0<r)(H:r<m.length)(L:r<=h+1):
 Calls prog 313 #[Q (M ⟨g,0,U⟩),I .u8 c.toNat] w fun e w'=>∃ao cap,e=Y (.tuple #[Z ao (h+1-r) cap,.bool F])∧iA w' w.heap.size 5 ao cap (m.take (h+1-r))∧mq w' g m r p∧w.grownBy w' (M g):=by
 have N:=H9 n;have z:=abP w g m h h c p n C (by omega);rw[D] at z;have f:=n.lt;obtain⟨t,cap,gb⟩:=p;obtain⟨q,u,_⟩:=n;have S:=eZ w g 0 _ _ _ q;have T:=eZ w g 2 _ _ _ q;have f2:w.frozen? ⟨g,2,U⟩=F:=fq w g 2 _ _ q;have W:m.length<=cap:=u.tQ.1;have v:=N.o.put r;have HC:=H9 (QE (m.take (h+1-r)) (h+1-r) t cap (w.setCell ⟨g,2,U⟩ (I J (r:Int))).drew (by rw[bW];omega) ((u.tQ.first (h+1-r) (by omega)).grown (jM v.2 (qD _ _)) (fun a e=>by
  have:=kP q u (by decide);rwa[gD,e] at this)) (by omega))
 have t0:((r:Int)==0)=F:=by rw[aR];omega
 have t1:((r:Int)==m.length)=F:=by rw[aR];omega
 have x:(w.setCell ⟨g,2,U⟩ (I J (r:Int))).drew.cell? ⟨g,0,U⟩=M (Z t m.length cap):=(fB w ⟨g,2,U⟩ ⟨g,0,U⟩ _ (by simp)).trans S;have y:(w.setCell ⟨g,2,U⟩ (I J (r:Int))).drew.cell? ⟨g,2,U⟩=M (I J (r:Int)):=fA w ⟨g,2,U⟩ _ T;have b0:(r:Int)<=(h:Int)+1:=by omega
 have b1:(h:Int)+1-r<=cap:=by omega
 have b2:((h:Int)+1-r).toNat=h+1-r:=by omega
 have b3:IntKind.i64.wrap ((h:Int)+1)=(h:Int)+1:=ko (by omega) (by omega);have b4:IntKind.i64.wrap ((h:Int)+1-r)=(h:Int)+1-r:=ko (by omega) (by omega);go_enter func313,ntmps313;go_wp2_with fail
 refine z.mono ?_;rintro e d ⟨rfl,hw⟩;subst hw;go_wp2;go_region_held3 (fun w'=>w'.cell? ⟨g,0,U⟩=M (Z t m.length cap)∧w'.cell? ⟨g,2,U⟩=M (I J (r:Int))) (go_keep) (first | (go_at_call 311;refine HC.o.mono ?_;rintro e w2 ⟨gJ,i,rfl,j,s⟩;have c0':=(s.cell (p:=⟨g,0,U⟩) (by simpa using f)).trans x;have c2':=(s.cell (p:=⟨g,2,U⟩) (by simpa using f)).trans y;have HO:=H9 j;have HB:=H9 s;clear j s))
 all_goals
  go_wp2;go_ret2;have B:=HB.o;have k:(d.setCell ⟨g,2,U⟩ (I J (r:Int))).drew.heap.size=d.heap.size:=by simp
  have j:=HO.o;rw[k] at B j;have l:Below d.heap.size (d.setCell ⟨g,2,U⟩ (I J (r:Int))) w2:=(gy _ _).trans B;have b:(d.setCell ⟨g,2,U⟩ (I J (r:Int))).heap.size=d.heap.size:=k;refine⟨gJ,i,rfl,j,v.1.stay (by rw[b];exact l),jM v.2 (AQ _ (b▸l))⟩
theorem Am (w:X)(g:Nat)(m:av)(h:Nat)(c:UInt8)(p:Ox)(i:mq w g m h p)(d:h<=m.length-1)(j:m.length<=1000000):
 Calls prog 313 #[Q (M ⟨g,0,U⟩),I .u8 c.toNat] w fun e w'=>∃ao cap,e=Y (.tuple #[Z ao (Sk.out m h c).length cap,.bool (Sk.found m h c)])∧iA w' w.heap.size 5 ao cap (Sk.out m h c)∧mq w' g m (Sk.after m h c) p∧w.grownBy w' (M g):=by
 have n:=Sk.MR m h c;have b:=Sk.Ci m h c;by_cases f:Sk.fit m h c=0
 . have a:Sk.found m h c=F:=by unfold Sk.found;rw[f,dw,bO,bO];omega
   have ha:Sk.after m h c=0:=by unfold Sk.after;rw[a,f];rfl
   rw[Sk.C8 f,a,ha,show(m.take h++[c]).length=h+1 by simp;omega];exact Oy w g m h c p i d j f
 . by_cases k:Sk.fit m h c=m.length
   . have a:Sk.found m h c=true:=by unfold Sk.found;rw[cO,bP,bP];exact⟨by omega,k⟩
     have ha:Sk.after m h c=0:=by unfold Sk.after;rw[a];rfl
     rw[Sk.FZ a d,a,ha];refine(Lp w g m h c p i d j (by omega) k).mono ?_;rintro e w' ⟨rfl,l,o⟩;exact⟨U,0,rfl,iA.nil _ _ _,l,o⟩
   . have a:Sk.found m h c=F:=by unfold Sk.found;rw[dw,bO,bO];exact Or.inr k
     have ha:Sk.after m h c=Sk.fit m h c:=by unfold Sk.after;rw[a];rfl
     rw[Sk.Vo (by omega) (by omega),a,ha,show(m.take (h+1-Sk.fit m h c)).length=h+1-Sk.fit m h c by rw[bW];omega];exact Oz w g m h _ c p i d j rfl (by omega) (by omega) b
structure jg (w:X)(g:Nat)(sk:Value)(ah:Int)(ln:Value)(fo:ak)(nf fZ:Nat)(pl pt cd:Int):Prop where
 row:w.heap[g]? = M (.cells #[sk,I J ah,ln,Z fo nf fZ,I J pl,I J pt,I J cd] 313 (0,0))
section
variable {w w':X} {g:Nat} {sk ln:Value} {fo:ak} {nf fZ:Nat} {ah pl pt cd:Int}
theorem jg.lt (h:jg w g sk ah ln fo nf fZ pl pt cd):g<w.heap.size:=(aL.1 h.row).1
theorem jg.c0 (h:jg w g sk ah ln fo nf fZ pl pt cd):w.cell? ⟨g,0,U⟩=M sk:=eZ w g 0 _ _ _ h.row
theorem jg.c1 (h:jg w g sk ah ln fo nf fZ pl pt cd):w.cell? ⟨g,1,U⟩=M (I J ah):=eZ w g 1 _ _ _ h.row
theorem jg.c2 (h:jg w g sk ah ln fo nf fZ pl pt cd):w.cell? ⟨g,2,U⟩=M ln:=eZ w g 2 _ _ _ h.row
theorem jg.c3 (h:jg w g sk ah ln fo nf fZ pl pt cd):w.cell? ⟨g,3,U⟩=M (Z fo nf fZ):=eZ w g 3 _ _ _ h.row
theorem jg.c4 (h:jg w g sk ah ln fo nf fZ pl pt cd):w.cell? ⟨g,4,U⟩=M (I J pl):=eZ w g 4 _ _ _ h.row
theorem jg.c5 (h:jg w g sk ah ln fo nf fZ pl pt cd):w.cell? ⟨g,5,U⟩=M (I J pt):=eZ w g 5 _ _ _ h.row
theorem jg.c6 (h:jg w g sk ah ln fo nf fZ pl pt cd):w.cell? ⟨g,6,U⟩=M (I J cd):=eZ w g 6 _ _ _ h.row
theorem jg.fz (h:jg w g sk ah ln fo nf fZ pl pt cd)(j:Nat):w.frozen? ⟨g,j,U⟩=F:=fq w g j _ _ h.row
theorem jg.turns {S:Nat->Prop}(h:jg w g sk ah ln fo nf fZ pl pt cd)(a:Turns S w w')(b:¬S g):jg w' g sk ah ln fo nf fZ pl pt cd:=⟨a.row h.row b⟩
theorem jg.stay (h:jg w g sk ah ln fo nf fZ pl pt cd)(a:Below w.heap.size w w'):jg w' g sk ah ln fo nf fZ pl pt cd:=⟨(a.block g h.lt).trans h.row⟩
theorem jg.s1 (h:jg w g sk ah ln fo nf fZ pl pt cd)(v:Int):jg (w.setCell ⟨g,1,U⟩ (I J v)) g sk v ln fo nf fZ pl pt cd:=⟨by rw[fu w g 1 _ _ _ h.row];rfl⟩
theorem jg.s3 (h:jg w g sk ah ln fo nf fZ pl pt cd)(a:ak)(b c:Nat):jg (w.setCell ⟨g,3,U⟩ (Z a b c)) g sk ah ln a b c pl pt cd:=⟨by rw[fu w g 3 _ _ _ h.row];rfl⟩
theorem jg.s4 (h:jg w g sk ah ln fo nf fZ pl pt cd)(v:Int):jg (w.setCell ⟨g,4,U⟩ (I J v)) g sk ah ln fo nf fZ v pt cd:=⟨by rw[fu w g 4 _ _ _ h.row];rfl⟩
theorem jg.s5 (h:jg w g sk ah ln fo nf fZ pl pt cd)(v:Int):jg (w.setCell ⟨g,5,U⟩ (I J v)) g sk ah ln fo nf fZ pl v cd:=⟨by rw[fu w g 5 _ _ _ h.row];rfl⟩
theorem jg.set (w:X)(g:Nat)(j:Nat)(v:Value):Turns (fun k=>k=g) w (w.setCell ⟨g,j,U⟩ v):=Turns.setCell (fun k=>k=g) w ⟨g,j,U⟩ v rfl
end
structure rY (w:X)(C:Nat->Prop)(m:av)(s:Fm.St)(gs gl:Nat)(p:Ox)(fo:ak)(fZ:Nat)(D:Nat->Prop):Prop where
 sk:mq w gs m s.held p
 zH:C gs∧C p.gb∧∀a,p.mo=M a->C a.block
 OA:¬D gs∧¬D p.gb∧∀a,p.mo=M a->¬D a.block
 ln:gW w (fun k=>C k∧D k) gl s.ln
 own:gH w 0 131 2 fo fZ s.fields.length (gG (Rq.nu s.fields))
 fC:∀a,fo=M a->C a.block∧¬D a.block
section
variable {w w':X} {C C' S' D:Nat->Prop} {m:av} {s:Fm.St} {gs gl:Nat} {p:Ox} {fo:ak} {fZ:Nat}
theorem rY.mono (h:rY w C m s gs gl p fo fZ D)(b:∀k,k<w.heap.size->C k->C' k):rY w C' m s gs gl p fo fZ D :=
 ⟨h.sk,⟨b _ h.sk.lt h.zH.1,b _ h.sk.2.2.lt h.zH.2.1,fun a e=>b _ (h.sk.2.1.block a e).2 (h.zH.2.2 a e)⟩,h.OA,h.ln.mono (fun k c e=>⟨b k c e.1,e.2⟩),h.own,fun a e=>⟨b _ (h.own.block a e).2 (h.fC a e).1,(h.fC a e).2⟩⟩
theorem rY.turns (h:rY w C m s gs gl p fo fZ D)(c:Turns S' w w')(b:∀k,C k->¬S' k):rY w' C m s gs gl p fo fZ D :=
 ⟨h.sk.turns c (b _ h.zH.1) (b _ h.zH.2.1) (fun a e=>b _ (h.zH.2.2 a e)),h.zH,h.OA,h.ln.turns c (fun k e=>b k e.1),h.own.turns c (fun a e=>b _ (h.fC a e).1),h.fC⟩
theorem rY.stay (h:rY w C m s gs gl p fo fZ D)(a:Below w.heap.size w w'):rY w' C m s gs gl p fo fZ D:=h.turns (Turns.of_below (S:=fun _=>False) a) (fun _ _ e=>e)
theorem rY.as {a:Fm.St}(h:rY w C m s gs gl p fo fZ D)(b:a.held=s.held)(c:a.ln=s.ln)(d:a.fields=s.fields):rY w C m a gs gl p fo fZ D :=
 ⟨b▸h.sk,h.zH,h.OA,c▸h.ln,d▸h.own,h.fC⟩
theorem rY.fs (h:rY w C m s gs gl p fo fZ D):∀a,fo=M a->a.block≠gs∧a.block≠p.gb∧∀b,p.mo=M b->a.block≠b.block:=by
 intro a e;have j:=kP h.sk.1 h.own (by decide);rw[gD,e] at j;refine⟨fun f=>j (by simp[fV,f]),fun f=>?_,fun b k f=>?_⟩
 . obtain⟨q,i,_⟩:=h.sk.2.2;have g:=kP i h.own (by decide);rw[gD,e] at g;exact g (by simp[fV,f])
 . rcases h.sk.2.1.2 with c | ⟨r,l,n,d,_,o,_⟩
   . have c:=c.1;rw[k] at c;injection c with c;cases c
   . rw[k] at d;injection d with d;injection d with d;have g:=kP o h.own (by decide);rw[gD,e] at g;exact g (by simp[fV,f,d])
end
inductive jR (w:X)(S:Nat->Prop)(g:Nat)(m:av)(s:Fm.St):Prop
 | dead (h:¬Fm.live s) (me:S g) (row:jg w g (Q U) (s.ahead:Int) (Q U) U 0 0 (s.place:Int) (s.parts:Int) (s.code:Int))
 | live (h:Fm.live s) (me:S g) (gs gl:Nat) (p:Ox) (fo:ak) (fZ:Nat) (D:Nat->Prop) (row:jg w g (Q (M ⟨gs,0,U⟩)) (s.ahead:Int) (Q (M ⟨gl,0,U⟩)) fo s.fields.length fZ (s.place:Int) (s.parts:Int) (s.code:Int)) (inn:rY w (fun k=>S k∧k≠g) m s gs gl p fo fZ D)
section
variable {w w':X} {S S':Nat->Prop} {g:Nat} {m:av} {s:Fm.St}
theorem jR.lt (h:jR w S g m s):g<w.heap.size:=by
 cases h with
 | dead h a row=>exact row.lt
 | live h a b c p d e D row inn=>exact row.lt
theorem jR.me (h:jR w S g m s):S g:=by
 cases h with
 | dead h a row=>exact a
 | live h a b c p d e D row inn=>exact a
theorem jR.mono (h:jR w S g m s)(a:∀k,k<w.heap.size->S k->S' k):jR w S' g m s:=by
 cases h with
 | dead h b row=>exact .dead h (a g row.lt b) row
 | live h b c d p f i D row inn=>exact .live h (a g row.lt b) c d p f i D row (inn.mono (fun k j e=>⟨a k j e.1,e.2⟩))
theorem jR.turns (h:jR w S g m s)(b:Turns S' w w')(c:∀k,S k->¬S' k):jR w' S g m s:=by
 cases h with
 | dead h a row=>exact .dead h a (row.turns b (c g a))
 | live h a d f p i j D row inn=>exact .live h a d f p i j D (row.turns b (c g a)) (inn.turns b (fun k e=>c k e.1))
theorem jR.stay (h:jR w S g m s)(a:Below w.heap.size w w'):jR w' S g m s:=h.turns (Turns.of_below (S:=fun _=>False) a) (fun _ _ e=>e)
theorem jR.cells (h:jR w S g m s):w.cell? ⟨g,4,U⟩=M (I J (s.place:Int))∧w.cell? ⟨g,5,U⟩=M (I J (s.parts:Int))∧w.cell? ⟨g,6,U⟩=M (I J (s.code:Int))∧∀j,w.frozen? ⟨g,j,U⟩=F:=by
 cases h with
 | dead h a row=>exact⟨row.c4,row.c5,row.c6,row.fz⟩
 | live h a b c p d e D row inn=>exact⟨row.c4,row.c5,row.c6,row.fz⟩
end
theorem Tm (w:X)(S:Nat->Prop)(g:Nat)(m:av)(s:Fm.St)(h:jR w S g m s):
 Calls prog 243 #[Q (M ⟨g,0,U⟩)] w fun e w'=>e=Y (I J (Fm.close s:Int))∧w'=w:=by
 have j:=h.cells;by_cases c:s.code=0
 . have f:((s.code:Int)==0)=true:=by rw[aS];omega
   by_cases b:s.place=6
   . have i:((s.place:Int) != 6)=F:=by rw[b];rfl
     have a:Fm.close s=s.code:=by unfold Fm.close;rw[if_neg (fun e=>e.2 b)]
     rw[a];generalize (s.code:Int)=d at *;generalize (s.place:Int)=pl at *;go_enter func243,ntmps243;go_wp2;go_ret;exact⟨rfl,rfl⟩
   . have i:((s.place:Int) != 6)=true:=by rw[cK];omega
     have a:Fm.close s=14:=by unfold Fm.close;rw[if_pos ⟨c,b⟩]
     rw[a];generalize (s.code:Int)=d at *;generalize (s.place:Int)=pl at *;go_enter func243,ntmps243;go_wp2;go_ret;exact⟨rfl,rfl⟩
 . have f:((s.code:Int)==0)=F:=by rw[aR];omega
   have a:Fm.close s=s.code:=by unfold Fm.close;rw[if_neg (fun e=>c e.1)]
   rw[a];generalize (s.code:Int)=d at *;generalize (s.place:Int)=pl at *;go_enter func243,ntmps243;go_wp2;go_ret;exact⟨rfl,rfl⟩
section
end
end Go.Proofs.YthhklgjjnaeaoaaGreatDoor