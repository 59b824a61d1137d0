/- Small texts, one behind the other: RqEnd, RqBusy. -/
import Derived.Test.YtjmndjmhjleabaaGreatDoorRqA
open Go.Value renaming int->I,pointer->Q
open Go.IntKind renaming i64->J
open Option renaming none->U,some->M
open Bool renaming false->F
open Go renaming World->X
set_option maxHeartbeats 2000000
set_option maxRecDepth 100000
open Go.Proofs.Tryz
namespace Go.Proofs.YtjmndjmhjleabaaGreatDoor
open Go.RowKit
theorem Rq.Fq (f:au):∀(l:List (au)) (n:Int) (c:Nat),Rq.sizes f n l=.inl c->c≠0
 | [],n,c,e=>by cases e
 | v :: t, n, c, e => by
   rw[Rq.sizes] at e;split at e
   . injection e with e;omega
   . split at e
     . injection e with e;omega
     . exact Rq.Fq f t _ c e
theorem Rq.Pw {mi:Nat}{a C:List (au)}{c:Nat}(e:Rq.zJ mi a C=.inl c):c≠0:=by
 unfold Rq.zJ Rq.sM at e;split at e
 . split at e
   . injection e with e;omega
   . split at e
     . injection e with e;omega
     . cases e
 . split at e
   . rename_i b;injection e with e;subst e;exact Rq.Fq _ _ _ _ b
   . split at e
     . injection e with e;omega
     . cases e
theorem Rq.Um (h:Rq.Hd):Rq.len h=if 1<(Fd.vals rQ (Rq.nu h.fields)).length∨(Fd.vals rQ (Rq.nu h.fields)).length=0∧h.minor=1 then .inl 13 else Rq.zJ h.minor (Rq.lists (Fd.vals qm (Rq.nu h.fields))) (Rq.lists (Fd.vals qp (Rq.nu h.fields))):=by
 rw[Rq.len_eq,Rq.V5];have e:∀(b:av),Ch.lower b.data.toList=b.data.toList->Rq.vals h.fields b.data.toList=Rq.lists (Fd.vals b (Rq.nu h.fields)):=fun b f=>by
  have:=Rq.wz (Rq.nu h.fields) b f;rw[Rq.Jl] at this;exact this
 have g:=e rQ (by decide);have i:=e qm (by decide);have j:=e qp (by decide);have a:Rq.vals h.fields Rq.nHost=Rq.lists (Fd.vals rQ (Rq.nu h.fields)):=g;have c:Rq.vals h.fields Rq.Ky=Rq.lists (Fd.vals qm (Rq.nu h.fields)):=i;have d:Rq.vals h.fields Rq.Kz=Rq.lists (Fd.vals qp (Rq.nu h.fields)):=j;rw[a,c,d];have k:(Rq.lists (Fd.vals rQ (Rq.nu h.fields))).length=(Fd.vals rQ (Rq.nu h.fields)).length:=by simp[Rq.lists]
 rw[k]
inductive afc (w:X)(S:Nat->Prop)(g gh:Nat)(lp bd:Value)(h:Rq.Hd)(e:Ending)(w':X):Prop
 | bad (c:Nat) (hc:c≠0) (he:e=.returned (I J (c:Int))) (hf:Rq.len h=.inl c) (hP:jf w' g lp (Q (M ⟨gh,0,U⟩)) F bd 0) (hT:Turns (fun k=>S k∨k=g) w w')
 | ok (k:Int) (he:e=.returned (I J 0)) (hf:Rq.len h=.inr k) (hP:jf w' g lp (Q (M ⟨gh,0,U⟩)) true bd 0) (hH:jF w' S gh { h with length:=k }) (hT:Turns (fun k=>S k∨k=g) w w')
theorem mR {w:X}{S:Nat->Prop}{a:Nat}{h:Rq.Hd}(k:jF w S a h):w.cell? ⟨a,4,U⟩=M (I J h.length)∧w.frozen? ⟨a,4,U⟩=F:=by
 obtain⟨c,d,b,_⟩:=k;exact⟨fJ w a 4 _ _ _ b,fK w a 4 _ _ b⟩
theorem Dc {w c:X}{S:Nat->Prop}{g a:Nat}{f bd:Value}{h:Rq.Hd}(n:Int)(b:Bool)(l:Below w.heap.size w c)(m:jf c g f (Q (M ⟨a,0,U⟩)) F bd 0)(o:jF c S a h)(i:¬S g):
 jf ((c.setCell ⟨a,4,U⟩ (I J n)).setCell ⟨g,2,U⟩ (.bool b)) g f (Q (M ⟨a,0,U⟩)) b bd 0∧jF ((c.setCell ⟨a,4,U⟩ (I J n)).setCell ⟨g,2,U⟩ (.bool b)) S a { h with length:=n }∧Turns (fun k=>S k∨k=g) w ((c.setCell ⟨a,4,U⟩ (I J n)).setCell ⟨g,2,U⟩ (.bool b)):=by
 obtain⟨p,j⟩:=o.len n;have d:=m.turns j i;refine⟨d.s2 b,p.turns (Turns.setCell (fun k=>k=g) _ _ _ rfl) (fun k q e=>i (e▸q)),?_⟩;exact(Turns.of_below (S:=fun k=>S k∨k=g) l).trans ((j.mono (fun k e=>Or.inl e)).trans (Turns.setCell (fun k=>S k∨k=g) _ _ _ (Or.inr rfl)) (fun _ e _=>e)) (fun _ e _=>e)
theorem Z9 (w:X)(g x:Nat)(lp bd:Value)(S:Nat->Prop)(h:Rq.Hd)(hP:jf w g lp (Q (M ⟨x,0,U⟩)) F bd 0)(hH:jF w S x h)(hg:¬S g)(hG:Rq.nG h):
 Calls prog 141 #[Q (M ⟨g,0,U⟩)] w fun e w'=>afc w S g x lp bd h e w':=by
 have T:=H9 hH;have L:=H9 hP;have OY:=H9 hg;obtain⟨fo,gL,hr,ho,h1,h2⟩:=hH;have c1:=hP.c1;have c3:w.cell? ⟨x,3,U⟩=M (.slice fo h.fields.length gL):=fJ w x 3 _ _ _ hr;have c2:w.cell? ⟨x,2,U⟩=M (I J (h.minor:Int)):=fJ w x 2 _ _ _ hr;have hs:∀p∈Rq.nu h.fields,p.1.size<=2000∧p.2.size<=2000:=fun p hp=>by
  obtain⟨f,hf,rfl⟩:=aM.1 hp;have:=hG.fields f hf;exact⟨by show f.1.toArray.size<=2000;rw[bL];omega,by show f.2.toArray.size<=2000;rw[bL];omega⟩
 have z:(Rq.nu h.fields).length=h.fields.length:=Rq.kU _;have afd:=hG.many;have s:=H9 (fun W (B:Below w.heap.size w W)=>And.intro ((B.cell (fZ w _ c1)).trans c1) (And.intro ((B.cell (fZ w _ c2)).trans c2) ((B.cell (fZ w _ c3)).trans c3)));have t:=H9 (Ul (Rq.nu h.fields) XP fo gL h.fields.length w ho.nP z (by omega) hs (by decide));rw[Ui] at t;have y:=H9 (fun W (B:Below w.heap.size w W)=>Pv x h.minor (Rq.nu h.fields) fo gL h.fields.length W (s.o W B).2.1 (s.o W B).2.2 (ho.nP.stay B) z (by omega) hs);have j:=Rq.Um h;generalize (Fd.vals rQ (Rq.nu h.fields)).length=H at t j;have i:∀c,Rq.zJ h.minor (Rq.lists (Fd.vals qm (Rq.nu h.fields))) (Rq.lists (Fd.vals qp (Rq.nu h.fields)))=.inl c->c≠0:=fun c e=>Rq.Pw e;generalize Rq.zJ h.minor (Rq.lists (Fd.vals qm (Rq.nu h.fields))) (Rq.lists (Fd.vals qp (Rq.nu h.fields)))=ai at y j i;unfold XP at t;clear hr ho hs z afd hG h1 h2 hP hg;by_cases N:1<H∨H=0∧h.minor=1
 . rw[if_pos N] at j;have C:=H9 j;clear j i y;by_cases hH1:1<H
   . have t1:decide ((H:Int) > 1)=true:=aH (by omega);clear N;go_enter func141,ntmps141;go_wp2_with fail
     refine t.o.mono ?_;rintro e m ⟨rfl,a⟩;have d:=H9 a;have u:=(s.o m a).1;have v:=(s.o m a).2.1;clear a;go_wp2;go_ret;exact .bad 13 (by omega) rfl C.o (L.o.stay d.o) (Turns.of_below d.o)
   . have t1:decide ((H:Int) > 1)=F:=aI (by omega);have t0:((H:Int)==0)=true:=aS.2 (by omega);have tm:((h.minor:Int)==1)=true:=aS.2 (by omega);clear N hH1;go_enter func141,ntmps141;go_wp2_with fail
     refine t.o.mono ?_;rintro e m ⟨rfl,a⟩;have d:=H9 a;have u:=(s.o m a).1;have v:=(s.o m a).2.1;clear a;go_wp2;go_ret;exact .bad 13 (by omega) rfl C.o (L.o.stay d.o) (Turns.of_below d.o)
 . rw[if_neg N] at j;have C:=H9 j;clear j;have t1:decide ((H:Int) > 1)=F:=aI (by omega);have hz:((H:Int)==0)=F∨((H:Int)==0)=true∧((h.minor:Int)==1)=F:=by
    by_cases h0:H=0
    . exact Or.inr ⟨aS.2 (by omega),aR.2 (by omega)⟩
    . exact Or.inl (aR.2 (by omega))
   clear N;cases ai with
   | inl c =>
     have tc:((c:Int)==0)=F:=aR.2 (by have:=i c rfl;omega);have O:=H9 (i c rfl);unfold Rq.lenVal at y;clear i;rcases hz with t0 | ⟨t0,tm⟩
     . go_enter func141,ntmps141;go_wp2_with fail
       refine t.o.mono ?_;rintro e m ⟨rfl,a⟩;have d:=H9 a;have u:=(s.o m a).1;have v:=(s.o m a).2.1;clear a;go_wp2_with fail
       refine(y.o m d.o).mono ?_;rintro e w2 ⟨rfl,l⟩;have b:=then_ d.o l;have n:=H9 (L.o.stay b);have q:=H9 (T.o.stay b);have r:=H9 b
       have q1:=n.o.c1;have q2:=n.o.c2;have qf:=n.o.fz 2;have m4:=(mR q.o).1;have mf:=(mR q.o).2;clear l b u v;go_wp2;go_ret;obtain⟨D,P,G⟩:=Dc 0 F r.o n.o q.o OY.o;exact .bad c O.o rfl C.o D G
     . go_enter func141,ntmps141;go_wp2_with fail
       refine t.o.mono ?_;rintro e m ⟨rfl,a⟩;have d:=H9 a;have u:=(s.o m a).1;have v:=(s.o m a).2.1;clear a;go_wp2_with fail
       refine(y.o m d.o).mono ?_;rintro e w2 ⟨rfl,l⟩;have b:=then_ d.o l;have n:=H9 (L.o.stay b);have q:=H9 (T.o.stay b);have r:=H9 b
       have q1:=n.o.c1;have q2:=n.o.c2;have qf:=n.o.fz 2;have m4:=(mR q.o).1;have mf:=(mR q.o).2;clear l b u v;go_wp2;go_ret;obtain⟨D,P,G⟩:=Dc 0 F r.o n.o q.o OY.o;exact .bad c O.o rfl C.o D G
   | inr k =>
     unfold Rq.lenVal at y;clear i;rcases hz with t0 | ⟨t0,tm⟩
     . go_enter func141,ntmps141;go_wp2_with fail
       refine t.o.mono ?_;rintro e m ⟨rfl,a⟩;have d:=H9 a;have u:=(s.o m a).1;have v:=(s.o m a).2.1;clear a;go_wp2_with fail
       refine(y.o m d.o).mono ?_;rintro e w2 ⟨rfl,l⟩;have b:=then_ d.o l;have n:=H9 (L.o.stay b);have q:=H9 (T.o.stay b);have r:=H9 b
       have q1:=n.o.c1;have q2:=n.o.c2;have qf:=n.o.fz 2;have m4:=(mR q.o).1;have mf:=(mR q.o).2;clear l b u v;go_wp2;go_ret;obtain⟨D,P,G⟩:=Dc k true r.o n.o q.o OY.o;exact .ok k rfl C.o D P G
     . go_enter func141,ntmps141;go_wp2_with fail
       refine t.o.mono ?_;rintro e m ⟨rfl,a⟩;have d:=H9 a;have u:=(s.o m a).1;have v:=(s.o m a).2.1;clear a;go_wp2_with fail
       refine(y.o m d.o).mono ?_;rintro e w2 ⟨rfl,l⟩;have b:=then_ d.o l;have n:=H9 (L.o.stay b);have q:=H9 (T.o.stay b);have r:=H9 b
       have q1:=n.o.c1;have q2:=n.o.c2;have qf:=n.o.fz 2;have m4:=(mR q.o).1;have mf:=(mR q.o).2;clear l b u v;go_wp2;go_ret;obtain⟨D,P,G⟩:=Dc k true r.o n.o q.o OY.o;exact .ok k rfl C.o D P G
theorem X4 (w:X)(S:Nat->Prop)(g:Nat)(s:Rq.St)(h:jH w S g s):
 Calls prog 47 #[Q (M ⟨g,0,U⟩)] w fun e w'=>e=.returned (.bool (Rq.busy s))∧w'=w:=by
 have b:=H9 (Eb w S g s h);have i:Hid (Rq.busy s=if s.ph=4 then F else if s.ph=0 then Ln.begun s.ln else true):=rfl;generalize Rq.busy s=t at i ⊢;obtain⟨u,v,x,bd,code,f,m⟩:=h;have y:=f.c0;have z:=f.c1;have C:=f.c3
 have d:=i.o;cases m with
 | dead c G l =>
   rw[if_pos l] at d;rw[aH l] at b;subst d;clear f i;go_enter func47,ntmps47;go_wp2_with (go_at_call 33;refine b.o.mono ?_;rintro e j ⟨rfl,a⟩;subst a)
   go_ret;exact⟨rfl,rfl⟩
 | Jo k n L =>
   rw[if_neg (by omega),if_pos n] at d;rw[aI (by omega)] at b;have p:=H9 (Fy w _ k s.ln L);subst d;clear f i L;generalize Ln.begun s.ln=N at *;go_enter func47,ntmps47;go_wp2_with (first
    | (go_at_call 33;refine b.o.mono ?_;rintro e j ⟨rfl,a⟩;subst a)
    | (go_at_call 80;refine p.o.mono ?_;rintro e O ⟨rfl,a⟩;subst a))
   go_ret;exact⟨rfl,rfl⟩
 | K5 k P D T L H =>
   rw[if_neg (by omega),if_neg (by omega)] at d;rw[aI (by omega)] at b;subst d;clear f i L H;go_enter func47,ntmps47;go_wp2_with (go_at_call 33;refine b.o.mono ?_;rintro e j ⟨rfl,a⟩;subst a)
   go_ret;exact⟨rfl,rfl⟩
 | at2 k q W L r B =>
   rw[if_neg (by omega),if_neg (by omega)] at d;rw[aI (by omega)] at b;subst d;clear f i L B;go_enter func47,ntmps47;go_wp2_with (go_at_call 33;refine b.o.mono ?_;rintro e j ⟨rfl,a⟩;subst a)
   go_ret;exact⟨rfl,rfl⟩
 | at3 k q D h3 L B =>
   rw[if_neg (by omega),if_neg (by omega)] at d;rw[aI (by omega)] at b;subst d;clear f i L B;go_enter func47,ntmps47;go_wp2_with (go_at_call 33;refine b.o.mono ?_;rintro e j ⟨rfl,a⟩;subst a)
   go_ret;exact⟨rfl,rfl⟩
end Go.Proofs.YtjmndjmhjleabaaGreatDoor