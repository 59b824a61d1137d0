/- Small texts, one behind the other: RqTake, RqHead, RqHeadB, RqFeed, RqWrA. -/
import Derived.Test.YthhklgjjnaeaoaaGreatDoorPk36
import Derived.Test.YthhklgjjnaeaoaaGreatDoorRqFld
import Derived.Test.YthhklgjjnaeaoaaGreatDoorPk41
open Go.Value renaming int->I,string->V,slice->Z,pointer->Q
open Go.IntKind renaming i64->J
open Go.Ending renaming returned->Y
open Option renaming none->U,some->M
open Or renaming inl->A,inr->R
open Go renaming World->X
set_option maxHeartbeats 4000000
set_option maxRecDepth 100000
open Go.Proofs.Tryz
namespace Go.Proofs.YthhklgjjnaeaoaaGreatDoor
open Go.RowKit
inductive Pb (w:X)(S:Nat->Prop)(g:Nat)(s:Rq.St)(t:av)(e:Ending)(w':X):Prop
 | quiet (s':Rq.St) (he:e=Y (I J 0)) (hl:Rq.line s t=(s',[])) (hR:jq w' (gB S w) g s') (hT:Turns S w w')
 | bad (c:Nat) (hc:c≠0) (he:e=Y (I J (c:Int))) (hl:Rq.line s t=(Rq.dead s,[.fail c])) (lp hp bd:Value) (hP:iW w' g lp hp false bd 0) (hT:Turns S w w')
 | whole (k:Int) (gl gh:Nat) (D:Nat->Prop) (he:e=Y (I J 0)) (hk:Rq.len s.hd=.inr k) (ht:t=[]) (h1:s.ph=1) (hP:iW w' g (Q (M ⟨gl,0,U⟩)) (Q (M ⟨gh,0,U⟩)) true .nilIface 0)
  (hL:gW w' (fun k=>(S k∧k≠g)∧¬D k) gl s.ln) (hH:jr w' (fun k=>(S k∧k≠g)∧D k) gh { s.hd with length:=k }) (hT:Turns S w w')
theorem ED {t:ay}(h:t.data.toList=[]):t=⟨#[]⟩:=by
 have:t.data=#[]:=by
  apply Array.ext';simpa using h
 cases t;simp only at this;rw[this]
theorem G6 {t:ay}(h:t.data.toList≠[]):0<t.size:=by
 have a:t.data.toList.length=t.size:=by rw[aO];rfl
 have:=eu.2 h;omega
theorem jq.new {w W:X}{S:Nat->Prop}{g:Nat}{s:Rq.St}(h:jq w S g s):jq w (gB S W) g s:=h.mono (fun _ _ e=>A e)
theorem XF (w:X)(S:Nat->Prop)(g:Nat)(s:Rq.St)(t:ay)(h:jq w S g s)(z:s.ph=0)(ht:t.size<=200)(W:∀b∈t.data.toList,Ch.visible b.toNat=true):
 Calls prog 135 #[Q (M ⟨g,0,U⟩),V t] w fun e w'=>Pb w S g s t.data.toList e w':=by
 have HR:=H9 h;obtain⟨hg,lp,hpp,bd,code,l,hI⟩:=h;cases hI with
 | dead c hc h4=>omega
 | MC i C D h1 L H=>omega
 | at2 i gb h2 L hb B=>omega
 | at3 i gb D h3 L B=>omega
 | Jz i h0 L =>
   have c1:=l.c1;by_cases m:t.data.toList=[]
   . obtain rfl:=ED m;have j:Hid (Rq.line s []=(s,[])):=by unfold Hid Rq.line;rw[if_pos z,if_pos rfl]
     go_enter func135,ntmps135;go_wp2;go_ret;exact .quiet s rfl j.o HR.o.new (Turns.refl _ _)
   . have n:=G6 m;have G:=Ch.mP t n;have HF:=H9 (Ua w g _ _ t l (by omega) W);have j:Hid (Rq.line s t.data.toList=match Rq.first t.data.toList with | .inl c=>(Rq.dead s,[.fail c]) | .inr h=>({ s with ph:=1,hd:=h },[])):=by
      unfold Hid Rq.line;rw[if_pos z,if_neg m];cases Rq.first t.data.toList <;> rfl
     have N:=l;have p:=H9 L;have d:=H9 hg
     have q:∀c,Rq.first t.data.toList=.inl c->c≠0:=fun c e=>by
      unfold Rq.first at e;split at e
      . split at e
        . injection e with e;omega
        . split at e
          . injection e with e;omega
          . split at e
            . cases e
            . split at e
              . cases e
              . injection e with e;omega
      . injection e with e;omega
     generalize t.data.toList=tl at *;go_enter func135,ntmps135;go_wp2_with fail
     refine HF.o.mono ?_;rintro e w1 (⟨c,rfl,r,hB⟩ | ⟨hd,C,rfl,r,u,v,x⟩)
     . have a:=H9 r;have T:=H9 hB
       go_wp2;go_ret;refine .bad c (q c a.o) rfl ?_ _ _ _ (N.stay T.o) (Turns.of_below T.o);rw[j.o,a.o]
     . have a:=H9 r;have ZT:=H9 u;have y:=H9 v;have f:=H9 x
       go_wp2;go_ret;refine .quiet { s with ph:=1,hd:=hd } rfl (by rw[j.o,a.o]) ⟨A d.o,_,_,_,_,ZT.o,?_⟩ (f.o.mono (fun k e=>by rw[e];exact d.o));refine .MC i C (fun k=>w.heap.size<=k) rfl ?_ ?_
       . refine((p.o.mono (S':=fun k=>(gB S w k∧k≠g)∧¬w.heap.size<=k) (fun k hk e=>⟨⟨A e.1,e.2⟩,by omega⟩)).turns f.o (fun k e=>e.1.2))
       . refine y.o.mono (fun k hk e=>⟨⟨R e,?_⟩,e⟩);have:=N.lt;omega
theorem XG (w:X)(S:Nat->Prop)(g:Nat)(s:Rq.St)(t:ay)(h:jq w S g s)(hp:s.ph=1)(hG:Rq.oU s.hd)(ht:t.size<=200):
 Calls prog 135 #[Q (M ⟨g,0,U⟩),V t] w fun e w'=>Pb w S g s t.data.toList e w':=by
 obtain⟨hg,lp,hpp,bd,code,r,hI⟩:=h;cases hI with
 | dead c j h4=>omega
 | Jz v h0 L=>omega
 | at2 v gb h2 L hb B=>omega
 | at3 v gb D h3 L B=>omega
 | MC v u D h1 L H =>
   have c1:=r.c1;have x:¬((fun k=>(S k∧k≠g)∧D k) g):=fun e=>e.1.2 rfl;have G:=r;have y:=H9 L;have l:=H9 hg;have QK:=H9 H
   by_cases N:t.data.toList=[]
   . obtain rfl:=ED N;have T:∀c,Rq.len s.hd=.inl c->Rq.line s []=(Rq.dead s,[.fail c]):=fun c e=>by
      unfold Rq.line;rw[if_neg (by omega),if_pos rfl,e]
     go_enter func135,ntmps135;go_wp2_with fail
     refine(ZV w g u _ _ _ s.hd r H x hG).mono ?_;rintro e W (⟨c,j,rfl,hf,d,f⟩ | ⟨k,rfl,hf,d,m,f⟩)
     . have n:=H9 hf;have z:=H9 d;have a:=H9 f;have NV:=H9 j
       go_wp2;go_ret;exact .bad c NV.o rfl (T c n.o) _ _ _ z.o (a.o.mono (fun k e=>by
        rcases e with e | e
        . exact e.1.1
        . rw[e];exact l.o))
     . have n:=H9 hf;have z:=H9 d;have a:=H9 f;have p:=H9 m
       go_wp2;go_ret;refine .whole k v u D rfl n.o rfl hp z.o ?_ p.o (a.o.mono (fun k e=>by
        rcases e with e | e
        . exact e.1.1
        . rw[e];exact l.o))
       exact y.o.turns a.o (fun k e b=>by
        rcases b with b | b
        . exact e.2 b.2
        . exact e.1.2 b)
   . have hts:=G6 N;have hemp:=Ch.mP t hts;have q:Rq.line s t.data.toList=if s.hd.fields.length=16 then (Rq.dead s,[.fail 8]) else if (Fd.of t.data.toList).code≠0 then (Rq.dead s,[.fail (Fd.of t.data.toList).code]) else ({ s with hd:={ s.hd with fields:=s.hd.fields++[((Fd.of t.data.toList).name,(Fd.of t.data.toList).value)] } },[]):=by
      unfold Rq.line;rw[if_neg (by omega),if_neg N]
     by_cases i:s.hd.fields.length=16
     . have C:=H9 (O5 w g u _ _ _ s.hd t r H i);rw[if_pos i] at q;generalize t.data.toList=tl at *;go_enter func135,ntmps135;go_wp2_with fail
       refine C.o.mono ?_;rintro e W ⟨rfl,hw⟩;subst hw;go_wp2;go_ret;exact .bad 8 (by omega) rfl q _ _ _ G (Turns.refl _ _)
     . rw[if_neg i] at q;by_cases j:(Fd.of t.data.toList).code=0
       . have C:=H9 (XE w g u _ _ _ s.hd t r H x (by have:=hG.many;omega) (by omega) j);rw[if_neg (fun e=>e j)] at q;generalize Fd.of t.data.toList=fd at *;generalize t.data.toList=tl at *;go_enter func135,ntmps135;go_wp2_with fail
         refine C.o.mono ?_;rintro e W ⟨rfl,d,m,f⟩;have z:=d;have p:=H9 m;have a:=H9 f
         go_wp2;go_ret;refine .quiet _ rfl q ⟨A l.o,_,_,_,_,z,?_⟩ (a.o.mono (fun k e=>e.1.1));refine .MC v u (fun k=>D k∨w.heap.size<=k) hp ?_ ?_
         . refine((y.o.mono (S':=fun k=>((gB S w k∧k≠g)∧¬(D k∨w.heap.size<=k))) (fun k hk e=>⟨⟨A e.1.1,e.1.2⟩,fun b=>by
            rcases b with b | b
            . exact e.2 b
            . omega⟩)).turns a.o (fun k e b=>e.2 (A b.2)))
         . refine p.o.mono (fun k hk e=>?_);rcases e with e | e
           . exact⟨⟨A e.1.1,e.1.2⟩,A e.2⟩
           . exact⟨⟨R e,by have:=G.lt;omega⟩,R e⟩
       . have C:=H9 (Ub w g u _ _ _ s.hd t r H i (by omega) j);rw[if_pos j] at q;have T:=q;have NV:=H9 j
         generalize (Fd.of t.data.toList).code=cc at *;generalize t.data.toList=tl at *;go_enter func135,ntmps135;go_wp2_with fail
         refine C.o.mono ?_;rintro e W ⟨rfl,hB⟩;go_wp2;go_ret;exact .bad cc NV.o rfl T _ _ _ (G.stay hB) (Turns.of_below hB)
structure ZW (w:X)(S:Nat->Prop)(g gl:Nat)(s:Rq.St)(c:UInt8):Prop where
 c0:w.cell? ⟨g,0,U⟩=M (Q (M ⟨gl,0,U⟩))
 fed:Calls prog 134 #[Q (M ⟨gl,0,U⟩),I .u8 c.toNat] w fun e w'=>e=Y (Ln.fed s.ln c)∧jq w' (gB (fun k=>S k∧k<w.heap.size) w) g { s with ln:=Ln.next s.ln c }∧Turns (fun k=>(S k∧k<w.heap.size)∧k≠g) w w'
theorem EG (w:X)(S:Nat->Prop)(g:Nat)(s:Rq.St)(c:UInt8)(h:jq w S g s)(m:Rq.Good s)(y:s.ph=0∨s.ph=1):∃a,ZW w S g a s c:=by
 obtain⟨n,z,p,bd,code,f,q⟩:=h;have o:=f.lt;cases q with
 | dead c C G=>omega
 | at2 a r N L T B=>omega
 | at3 a r D W L B=>omega
 | Jz a t L =>
   refine⟨a,f.c0,(oM w (fun k=>(S k∧k<w.heap.size)∧k≠g) a s.ln c (L.mono (fun k b e=>⟨⟨e.1,b⟩,e.2⟩)) m.ln.short).mono ?_⟩;rintro e u ⟨j,l,d⟩;refine⟨j,⟨A ⟨n,o⟩,_,_,_,_,f.turns d (fun e=>e.2 rfl),.Jz a t (l.mono (fun k _ e=>?_))⟩,d⟩;rcases e with e | e
   . exact⟨A e.1,e.2⟩
   . exact⟨R e,by omega⟩
 | MC a v D x L H =>
   refine⟨a,f.c0,(oM w (fun k=>((S k∧k<w.heap.size)∧k≠g)∧¬D k) a s.ln c (L.mono (fun k b e=>⟨⟨⟨e.1.1,b⟩,e.1.2⟩,e.2⟩)) m.ln.short).mono ?_⟩;rintro e u ⟨j,l,d⟩;refine⟨j,⟨A ⟨n,o⟩,_,_,_,_,f.turns d (fun e=>e.1.2 rfl),.MC a v (fun k=>D k∧k<w.heap.size) x (l.mono (fun k _ e=>?_)) (((H.mono (S':=fun k=>(gB (fun k=>S k∧k<w.heap.size) w k∧k≠g)∧D k∧k<w.heap.size) (fun k b e=>⟨⟨A ⟨e.1.1,b⟩,e.1.2⟩,e.2,b⟩)).turns d (fun k e i=>i.2 e.2.1)))⟩,d.mono (fun k e=>e.1)⟩;rcases e with e | e
   . exact⟨⟨A e.1.1,e.1.2⟩,fun i=>e.2 i.1⟩
   . exact⟨⟨R e,by omega⟩,fun i=>by have:=i.2;omega⟩
theorem Fz (w:X)(S So:Nat->Prop)(g:Nat)(s:Rq.St)(c:UInt8)(ao:ak)(cap n:Nat)(es:List Rq.Ev)(h:jq w S g s)(hG:Rq.Good s)(hp:s.ph=0∨s.ph=1)(u:(Ln.next s.ln c).code≠0)(hO:nM w So ao cap es)(hd:∀k,S k->¬So k)(q:es.length=n)(v:n<=90000)(r:Rq.Joined es)(t:Rq.Full es)(x:Rq.iO es<=90000):
 Calls prog 83 #[Q (M ⟨g,0,U⟩),Z ao n cap,I .u8 c.toNat] w fun e w'=>mX w S So g s c es e w':=by
 obtain⟨gl,f⟩:=EG w S g s c h hG hp;have c0:=f.c0;have y:=H9 f.fed;have z:=Ln.FM u;have B:Hid (Rq.next s c=(Rq.dead s,[.fail (Ln.next s.ln c).code])):=by
  unfold Hid Rq.next;rw[if_neg (by omega),if_neg (by omega),if_neg (by omega),if_pos u]
 unfold Ln.fed at y;rw[z] at y;have L:Hid (S g∧g<w.heap.size∧∀k,S k->¬So k):=⟨h.1,h.lt,hd⟩;have UM:=hO.mono (S':=fun k=>So k∧k<w.heap.size) (fun k hk e=>⟨e,hk⟩);have HE:=And.intro q (And.intro v (And.intro r (And.intro t x)));have tc:(((Ln.next s.ln c).code:Int) != 0)=true:=by rw[cK];omega
 generalize (⟨(Ln.text s.ln c).toArray⟩:ay)=tx at *;generalize (Ln.next s.ln c)=C at *;generalize C.code=N at *;go_enter func83,ntmps83;go_wp2_with fail
 refine y.o.mono ?_;rintro e w1 ⟨rfl,uF,D⟩;have G:=uF;have a:=H9 D
 go_wp2_with fail
 obtain⟨q,v,r,t,x⟩:=HE;obtain⟨b,T,hd⟩:=L.o;obtain⟨_,lp1,hp1,bd1,aaR,i,_⟩:=G;refine(Ey w1 g _ _ _ _ _ (fun k=>So k∧k<w.heap.size) ao cap n N es i (UM.turns a.o (fun k e d=>hd k d.1.1 e.1)) (fun e=>hd g b e.1) q (by omega) r t (by omega)).mono ?_;rintro e w2 ⟨jZ,j,n2,rfl,l,m,p,W⟩;have Wn:=H9 l;have IJ:=H9 m;have tC:=H9 p;have H:=H9 W
 clear q v r t x hd b T l m p W i;go_wp2;go_ret;obtain⟨b,T,hd⟩:=L.o;have hs1:=a.o.size;refine .mk jZ j n2 (fun k=>k=g) _ rfl (by rw[B.o];exact Wn.o) ?_ (by rw[B.o];exact IJ.o) ?_ (fun k e=>by rw[e];exact A b) ?_ ?_
 . rw[B.o];exact⟨rfl,_,_,_,_,tC.o,.dead N u rfl⟩
 . intro k e d;subst e;rcases d with d | d
   . exact hd k b d.1
   . omega
 . intro k e;rcases e with e | e
   . exact R (A e.1)
   . exact R (R (by omega))
 . refine(a.o.mono (fun k e=>A e.1.1)).trans (H.o.mono (fun k e=>?_)) (fun _ e _=>e);rcases e with e | e
   . exact R e.1
   . rw[e];exact A b
theorem FB (w:X)(S So:Nat->Prop)(g:Nat)(s:Rq.St)(c:UInt8)(ao:ak)(cap n:Nat)(es:List Rq.Ev)(h:jq w S g s)(x:Rq.Good s)(y:s.ph=0∨s.ph=1)(r:(Ln.next s.ln c).code=0)(t:Ln.ends s.ln c=false)(z:nM w So ao cap es)(hd:∀k,S k->¬So k)(f:es.length=n)(i:Rq.Joined es):
 Calls prog 83 #[Q (M ⟨g,0,U⟩),Z ao n cap,I .u8 c.toNat] w fun e w'=>mX w S So g s c es e w':=by
 obtain⟨gl,b⟩:=EG w S g s c h x y;have c0:=b.c0;have j:=H9 b.fed;have u:Hid (Rq.next s c=({ s with ln:=Ln.next s.ln c },[])):=by
  unfold Hid Rq.next;rw[if_neg (by omega),if_neg (by omega),if_neg (by omega),if_neg (fun e=>e r),if_neg (by rw[t];simp)]
 unfold Ln.fed at j;rw[t,r] at j;have B:S g∧g<w.heap.size∧∀k,S k->¬So k:=⟨h.1,h.lt,hd⟩;have C:=z.mono (S':=fun k=>So k∧k<w.heap.size) (fun k D e=>⟨e,D⟩);have G:=And.intro f i;generalize (⟨(Ln.text s.ln c).toArray⟩:ay)=tx at *;go_enter func83,ntmps83;go_wp2_with fail
 refine j.o.mono ?_;rintro e H ⟨rfl,v,l⟩;have m:=v;have a:=H9 l
 have c2:H.cell? ⟨g,2,U⟩=M (.bool false):=by obtain⟨_,L,N,T,W,p,_⟩:=v;exact p.c2
 go_wp2;go_ret;obtain⟨f,i⟩:=G;obtain⟨hg,zK,hd⟩:=B;have hs1:=a.o.size;have d:Rq.join (es++(Rq.next s c).2)=es:=by rw[u.o,bU];exact Rq.jd es i
 refine .mk ao cap n _ (fun k=>So k∧k<w.heap.size) rfl (by rw[d];exact f.symm) (by rw[u.o];exact m) (by rw[d];exact C.turns a.o (fun k e q=>hd k q.1.1 e.1)) ?_ ?_ (fun k e=>R (A e.1)) (a.o.mono (fun k e=>A e.1.1))
 . intro k e q;rcases e with e | e
   . exact hd k e.1 q.1
   . omega
 . intro k e;rcases e with e | e
   . exact A e.1
   . exact R e
structure XH (w:X)(S So:Nat->Prop)(g:Nat)(ao:ak)(cap n:Nat)(es:List Rq.Ev):Prop where
 gm:S g
 lt:g<w.heap.size
 apart:∀k,S k->¬So k
 evs:nM w (fun k=>So k∧k<w.heap.size) ao cap es
 len:es.length=n
 most:n<=90000
 joined:Rq.Joined es
 full:Rq.Full es
 sum:Rq.iO es<=90000
theorem Ue {a b:X}{T:Nat->Prop}{c d e f:Value}{k:Int}(g:Turns T (a.alloc (.cells #[c,d,e,f,I J k] 82)) b)(i:¬T a.heap.size):b.cell? ⟨a.heap.size,4,U⟩=M (I J k):=by
 have j:=g.row (eX a (.cells #[c,d,e,f,I J k] 82)) i;exact eZ b a.heap.size 4 _ _ _ j
theorem Jo (w:X)(S So:Nat->Prop)(g:Nat)(s:Rq.St)(c:UInt8)(ao:ak)(cap n:Nat)(es:List Rq.Ev)(h:jq w S g s)(hG:Rq.Good s)(hp:s.ph=0∨s.ph=1)(he:Ln.ends s.ln c=true)(hO:nM w So ao cap es)(hd:∀k,S k->¬So k)(hn:es.length=n)(hl:n<=90000)(hj:Rq.Joined es)(hf:Rq.Full es)(hz:Rq.iO es<=90000):
 Calls prog 83 #[Q (M ⟨g,0,U⟩),Z ao n cap,I .u8 c.toNat] w fun e w'=>mX w S So g s c es e w':=by
 obtain⟨gl,hLF⟩:=EG w S g s c h hG hp;have c0:=hLF.c0;have HF:=hLF.fed;obtain⟨e1,b⟩:=Ln.KA he;have hc:(Ln.next s.ln c).code=0:=by rw[e1];rfl
 have l:Rq.next s c=Rq.line { s with ln:=Ln.start } (Ln.text s.ln c):=by
  unfold Rq.next;rw[if_neg (by omega),if_neg (by omega),if_neg (by omega),if_neg (fun e=>e hc),if_pos he]
 unfold Ln.fed at HF;rw[he,hc,e1] at HF;have hsh:=Rq.tY (c:=c) hG.ln;have v:XH w S So g ao cap n es:=⟨h.1,h.lt,hd,hO.mono (fun k j e=>⟨e,j⟩),hn,hl,hj,hf,hz⟩;have hHG:s.ph=1->Rq.oU s.hd:=fun e=>(hG.hd e).1;have qU:∀L,jq L (gB (fun k=>S k∧k<w.heap.size) w) g { s with ln:=Ln.start }->Calls prog 135 #[Q (M ⟨g,0,U⟩),V ⟨(Ln.text s.ln c).toArray⟩] L fun e w'=>Pb L (gB (fun k=>S k∧k<w.heap.size) w) g { s with ln:=Ln.start } (Ln.text s.ln c) e w':=fun L hR=>by
  have hsz:(⟨(Ln.text s.ln c).toArray⟩:ay).size<=200:=by show(Ln.text s.ln c).toArray.size<=200;rw[bK];exact hsh.1
  rcases hp with hp | hp
  . exact XF L _ g _ ⟨(Ln.text s.ln c).toArray⟩ hR hp hsz hsh.2
  . exact XG L _ g _ ⟨(Ln.text s.ln c).toArray⟩ hR hp (hHG hp) hsz
 generalize (⟨(Ln.text s.ln c).toArray⟩:ay)=tx at *;generalize Ln.text s.ln c=tt at *;go_enter func83,ntmps83;go_wp2_with fail
 refine HF.mono ?_;rintro e L ⟨rfl,uF,hT1⟩;have HR1:=uF;have i:=H9 hT1
 go_wp2_with fail
 refine(qU L HR1).mono ?_;rintro e C (⟨s',rfl,N,hR2,jN⟩ | ⟨cc,hcc,rfl,N,lp2,hp2,bd2,r,jN⟩ | ⟨k,gl2,gh,D,rfl,j,htt,hph,r,hL2,hH2,jN⟩)
 . have HL:=N;have HR2:=H9 hR2;have f:=H9 jN
   have c2:C.cell? ⟨g,2,U⟩=M (.bool false):=by obtain⟨_,lp1,hp1,bd1,aaR,hP1,_⟩:=hR2;exact hP1.c2
   go_wp2;go_ret;have d:=v;have x:=i.o.size;have T:=f.o.size;have y:(Rq.next s c).1=s'∧(Rq.next s c).2=[]:=by rw[l,HL];exact⟨rfl,rfl⟩
   have hej:Rq.join (es++(Rq.next s c).2)=es:=by rw[y.2,bU];exact Rq.jd es d.joined
   have W:=(d.evs.turns i.o (fun k e b=>d.apart k b.1.1 e.1)).turns f.o (fun k e b=>by
    rcases b with b | b
    . exact d.apart k b.1 e.1
    . have:=e.2;omega)
   refine .mk ao cap n _ (fun k=>So k∧k<w.heap.size) rfl (by rw[hej];exact d.len.symm) (by rw[y.1];exact HR2.o) (by rw[hej];exact W) ?_ ?_ (fun k e=>R (A e.1)) ?_
   . intro k e b;rcases e with (e | e) | e
     . exact d.apart k e.1 b.1
     . omega
     . omega
   . intro k e;rcases e with (e | e) | e
     . exact A e.1
     . exact R e
     . exact R (by omega)
   . refine(i.o.mono (fun k e=>A e.1.1)).trans (f.o.mono (S':=fun k=>(S k∨So k)∨w.heap.size<=k) (fun k e=>?_)) (fun k e j=>?_)
     . rcases e with e | e
       . exact A (A e.1)
       . exact R e
     . rcases e with e | e
       . exact e
       . omega
 . have HL:=N;have tC:=H9 r;have f:=H9 jN;have NV:=H9 hcc
   have tc:((cc:Int) != 0)=true:=by rw[cK];omega
   clear N r jN hcc;go_wp2_with fail
   have d:=v;have x:=i.o.size;have W:=(d.evs.turns i.o (fun k e b=>d.apart k b.1.1 e.1)).turns f.o (fun k e b=>by
    rcases b with b | b
    . exact d.apart k b.1 e.1
    . have:=e.2;omega)
   refine(Ey C g _ _ _ _ _ (fun k=>So k∧k<w.heap.size) ao cap n cc es tC.o W (fun e=>d.apart g d.gm e.1) d.len (by have:=d.most;omega) d.joined d.full (by have:=d.sum;omega)).mono ?_;rintro e p ⟨kI,gZ,n3,rfl,hn3,hO3,G,nL⟩;have HN3:=H9 hn3;have rZ:=H9 hO3;have HP3:=H9 G;have z:=H9 nL
   clear d W hn3 hO3 G nL x;go_wp2;go_ret;have d:=v;have x:=i.o.size;have T:=f.o.size;have y:(Rq.next s c).1.ph=4∧(Rq.next s c).2=[.fail cc]:=by rw[l,HL];exact⟨rfl,rfl⟩
   refine .mk kI gZ n3 (fun k=>k=g) _ rfl (by rw[y.2];exact HN3.o) ⟨rfl,_,_,_,_,HP3.o,.dead cc NV.o y.1⟩ (by rw[y.2];exact rZ.o) ?_ (fun k e=>by rw[e];exact A d.gm) ?_ ?_
   . intro k e b;subst e;have:=d.lt;rcases b with b | b
     . exact d.apart k d.gm b.1
     . omega
   . intro k e;rcases e with e | e
     . exact R (A e.1)
     . exact R (R (by omega))
   . refine(i.o.mono (fun k e=>A e.1.1)).trans ((f.o.mono (S':=fun k=>(S k∨So k)∨w.heap.size<=k) (fun k e=>?_)).trans (z.o.mono (fun k e=>?_)) (fun _ e _=>e)) (fun k e j=>?_)
     . rcases e with e | e
       . exact A (A e.1)
       . exact R e
     . rcases e with e | e
       . exact A (R e.1)
       . rw[e];exact A (A d.gm)
     . rcases e with e | e
       . exact e
       . omega
 . have tC:=r;have HL2:=H9 hL2;have f:=H9 jN;have HK:=H9 j;have HTt:=H9 htt;have HPh:=H9 hph
   have c2:=r.c2;have MF:=XC C g gh _ _ _ _ r hH2 (fun e=>e.1.2 rfl);have hkr:=Rq.F8 j;clear r hL2 jN j htt hph hH2;go_wp2_with fail
   refine MF.mono ?_;rintro e p ⟨fo,fZ,rfl,G,hV3,nL⟩;have HP3:=G;have HV3:=H9 hV3;have z:=H9 nL
   clear G hV3 nL;go_wp2_with fail
   have d:=v;have x:=i.o.size;have T:=f.o.size;have hs3:=z.o.size;have hlt:=d.lt;have B:Below p.heap.size p (p.alloc (.cells #[V ⟨s.hd.method.toArray⟩,V ⟨s.hd.target.toArray⟩,I J (s.hd.minor:Int),Z fo s.hd.fields.length fZ,I J k] 82)):=(eY _ _).alloc (aM _) _;have hzA:(p.alloc (.cells #[V ⟨s.hd.method.toArray⟩,V ⟨s.hd.target.toArray⟩,I J (s.hd.minor:Int),Z fo s.hd.fields.length fZ,I J k] 82)).heap.size=p.heap.size+1:=by simp
   have hE3:=((((d.evs.turns i.o (fun k e b=>d.apart k b.1.1 e.1)).turns f.o (fun k e b=>by
    rcases b with b | b
    . exact d.apart k b.1 e.1
    . have:=e.2;omega)).turns z.o (fun k e b=>d.apart g d.gm (b▸e.1))).stay B)
   have hF3:=(HV3.o.mono (S':=fun k=>((gB (fun k=>S k∧k<w.heap.size) w k∧k≠g)∧D k)∧k<p.heap.size) (fun k j e=>⟨e,j⟩)).turns (Turns.of_below (S:=fun _=>False) B) (fun _ _ e=>e);refine(XA _ (fun k=>So k∧k<w.heap.size) (fun k=>((gB (fun k=>S k∧k<w.heap.size) w k∧k≠g)∧D k)∧k<p.heap.size) ao fo cap n fZ s.hd.fields.length { s.hd with length:=k } es hE3 hF3 rfl (fun k e b=>?_) d.len (by have:=d.most;omega) d.joined d.full (by have:=d.sum;omega)).mono ?_
   . rcases b.1.1.1 with q | q
     . exact d.apart k q.1 e.1
     . have:=e.2;omega
   rintro e u ⟨rO,H,n4,rfl,OY,hO4,vQ⟩;have hs4:=vQ.size;have c4:=Ue vQ (fun e=>by have:=e.2;omega);have hadd:=added d.len OY (fun a e=>by cases e) d.full;have hP4:=(HP3.stay B).turns vQ (fun e=>d.apart g d.gm e.1);have hL4:=(((HL2.o.mono (S':=fun k=>((gB (fun k=>S k∧k<w.heap.size) w k∧k≠g)∧¬D k)∧k<C.heap.size) (fun k j e=>⟨e,j⟩)).turns z.o (fun k e=>e.1.1.2)).turns (Turns.of_below (S:=fun _=>False) B) (fun _ _ e=>e)).turns vQ (fun k e b=>by
    rcases e.1.1.1 with q | q
    . exact d.apart k q.1 b.1
    . have:=b.2;omega)
   have aeK:=hO4.mono (S':=fun k=>((So k∧k<w.heap.size)∨(((gB (fun k=>S k∧k<w.heap.size) w k∧k≠g)∧D k)∧k<p.heap.size)∨p.heap.size+1<=k)∧k<u.heap.size) (fun k j e=>⟨by rw[hzA] at e;exact e,j⟩);have aeL:Turns (fun k=>(S k∨So k)∨w.heap.size<=k) w u:=by
    refine(i.o.mono (fun k e=>A (A e.1.1))).trans ((f.o.mono (fun k e=>?_)).trans ((z.o.mono (fun k e=>by rw[e];exact A (A d.gm))).trans ((Turns.of_below B).trans (vQ.mono (fun k e=>A (R e.1))) (fun _ e _=>e)) (fun _ e _=>e)) (fun _ e _=>e)) (fun _ e _=>e);rcases e with e | e
    . exact A (A e.1)
    . exact R e
   have hNx:Rq.next s c=if k=0 then ({ s with ln:=Ln.start,ph:=0 },[.head { s.hd with length:=k },.fin]) else if 0<k then ({ s with ln:=Ln.start,ph:=2,left:=k.toNat },[.head { s.hd with length:=k }]) else ({ s with ln:=Ln.start,ph:=3,ck:=Ck.start },[.head { s.hd with length:=k }]):=by
    have hk':Rq.len s.hd=.inr k:=HK.o;have hp1:s.ph=1:=HPh.o;rw[l,HTt.o];unfold Rq.line;rw[if_neg (by show ¬s.ph=0;omega),if_pos rfl];simp only[hk']
   have abK:p.heap.size+1<=u.heap.size:=by rw[<-hzA];exact hs4
   have HP4:=hP4;have HL4:=H9 hL4;have JA:=H9 aeK;have acg:=H9 aeL;have Zv:=H9 hadd;have HN4:=H9 OY;have QA:=H9 hNx
   have IQ:w.heap.size<=L.heap.size∧L.heap.size<=C.heap.size∧C.heap.size<=p.heap.size∧p.heap.size+1<=u.heap.size:=⟨x,T,hs3,abK⟩;have p3:=hP4.c3;have pf3:=hP4.fz 3;clear d x T hs3 hs4 hlt B hzA hE3 hF3 OY hO4 vQ hadd hP4 hL4 aeK aeL hNx abK c0 c2;have yx:∀k,((((gB (fun k=>S k∧k<w.heap.size) w k∧k≠g)∧¬D k)∧k<C.heap.size)∨k=g)->¬(((So k∧k<w.heap.size)∨(((gB (fun k=>S k∧k<w.heap.size) w k∧k≠g)∧D k)∧k<p.heap.size)∨p.heap.size+1<=k)∧k<u.heap.size):=fun k e b=>by
    have d:=v;have hlt:=d.lt;obtain⟨s1,s2,s3,s4⟩:=IQ;rcases e with e | e
    . rcases b.1 with b | b | b
      . rcases e.1.1.1 with q | q
        . exact d.apart k q.1 b.1
        . have:=b.2;omega
      . exact e.1.2 b.1.2
      . have:=e.2;omega
    . subst e;rcases b.1 with b | b | b
      . exact d.apart k d.gm b.1
      . exact b.1.1.2 rfl
      . omega
   have ach:∀k,((((gB (fun k=>S k∧k<w.heap.size) w k∧k≠g)∧¬D k)∧k<C.heap.size)∨k=g)->S k∨w.heap.size<=k:=fun k e=>by
    rcases e with e | e
    . rcases e.1.1.1 with q | q
      . exact A q.1
      . exact R q
    . rw[e];exact A v.gm
   have ZX:∀k,(((So k∧k<w.heap.size)∨(((gB (fun k=>S k∧k<w.heap.size) w k∧k≠g)∧D k)∧k<p.heap.size)∨p.heap.size+1<=k)∧k<u.heap.size)->S k∨So k∨w.heap.size<=k:=fun k e=>by
    obtain⟨s1,s2,s3,s4⟩:=IQ;rcases e.1 with e | e | e
    . exact R (A e.1)
    . rcases e.1.1.1 with q | q
      . exact A q.1
      . exact R (R q)
    . exact R (R (by omega))
   by_cases hk0:k=0
   . subst hk0;go_wp2_with fail
     obtain⟨a1,a2,a3,a4⟩:=Zv.o;refine(Jk u _ rO H n4 _ JA.o HN4.o.symm (by have:=v.most;omega) a4 a3 (by have:=v.sum;omega)).mono ?_;rintro e w5 ⟨xY,cap5,n5,rfl,hn5,vX,wm⟩;have HN5:=H9 hn5;have zk:=H9 vX;have Tt:=H9 wm
     clear hn5 vX wm a1 a2 a3 a4;go_wp2;go_ret;have l:=QA.o;first | rw[if_pos rfl] at l | rw[if_pos trivial] at l | skip
     obtain⟨s1,s2,s3,s4⟩:=IQ;have hj2:Rq.join (Rq.join (es++[.head { s.hd with length:=0 }])++[.fin])=Rq.join (es++(Rq.next s c).2):=by rw[l];exact Rq.J8 es [_] [.fin]
     refine .mk xY cap5 n5 (fun k=>(((gB (fun k=>S k∧k<w.heap.size) w k∧k≠g)∧¬D k)∧k<C.heap.size)∨k=g) _ rfl (by rw[<-hj2];exact HN5.o) ?_ (by rw[<-hj2];exact zk.o) ?_ ach ?_ ?_
     . rw[l];refine⟨R rfl,_,_,_,_,HP4.turns Tt.o (fun e=>yx g (R rfl) e),.Jz gl2 rfl ((HL4.o.turns Tt.o (fun k e b=>yx k (A e) b)).mono (fun k _ e=>⟨A e,e.1.1.2⟩))⟩
     . intro k e b;rcases b with b | b | b
       . exact yx k e b
       . exact b
       . rcases e with e | e
         . have:=e.2;omega
         . have:=v.lt;omega
     . intro k e;rcases e with e | e | e
       . exact ZX k e
       . exact e.elim
       . exact R (R (by omega))
     . have h:=acg.o.trans (Tt.o.mono (S':=fun k=>(S k∨So k)∨w.heap.size<=k) (fun k e=>by
        rcases ZX k e with e | e | e
        . exact A (A e)
        . exact A (R e)
        . exact R e)) (fun _ e _=>e)
       exact⟨h.os,h.tape,h.output,h.size,fun k j hn=>h.block k j (fun e=>by
        rcases e with e | e
        . exact hn e
        . omega)⟩
   . have tk:(k==0)=false:=aR.2 hk0;by_cases hk1:0<k
     . obtain⟨m,rfl⟩:∃m:Nat,k=(m:Int):=⟨k.toNat,by omega⟩;have ZE:=Jl u m (by omega);go_wp2_with fail
       refine ZE.mono ?_;rintro e w5 ⟨rfl,Bq,t⟩;have QF:=HP4.stay t;have q3:=QF.c3;have qf3:=QF.fz 3;have HP5:=QF;have nX:=H9 Bq;have Pf:=H9 t
       clear QF Bq t;go_wp2;go_ret;have l:=QA.o;rw[if_neg hk0,if_pos hk1] at l;obtain⟨s1,s2,s3,s4⟩:=IQ;have hlt:=v.lt;have Cb:=Turns.setCell (fun k=>k=g) w5 ⟨g,3,U⟩ (.iface 244 (Q (M ⟨u.heap.size,0,U⟩))) rfl;refine .mk rO H n4 (fun k=>((((gB (fun k=>S k∧k<w.heap.size) w k∧k≠g)∧¬D k)∧k<C.heap.size)∨k=g)∨k=u.heap.size) _ rfl (by rw[l];exact HN4.o) ?_ (by rw[l];exact(JA.o.stay Pf.o).turns Cb (fun k e b=>yx k (R b) e)) ?_ ?_ ZX ?_
       . rw[l];refine⟨A (R rfl),_,_,_,_,HP5.s3 _,.at2 gl2 u.heap.size rfl (((HL4.o.turns (Turns.of_below (S:=fun _=>False) Pf.o) (fun _ _ e=>e)).turns Cb (fun k e=>e.1.1.2)).mono (fun k _ e=>⟨⟨A (A e),e.1.1.2⟩,by have:=e.2;omega⟩)) ⟨R rfl,by omega⟩ ?_⟩;have:=Cb.row nX.o (by omega);rw[this];simp
       . intro k e b;rcases e with e | e
         . exact yx k e b
         . have:=b.2;omega
       . intro k e;rcases e with e | e
         . exact ach k e
         . exact R (by omega)
       . have h:=acg.o.trans ((Turns.of_below (S:=fun k=>(S k∨So k)∨w.heap.size<=k) Pf.o).trans (Cb.mono (S':=fun k=>(S k∨So k)∨w.heap.size<=k) (fun k e=>by rw[e];exact A (A v.gm))) (fun _ e _=>e)) (fun _ e _=>e);exact⟨h.os,h.tape,h.output,h.size,fun k j hn=>h.block k j (fun e=>by
          rcases e with e | e
          . exact hn e
          . omega)⟩
     . obtain rfl:k=-1:=by omega
       have ZE:=Fu u;go_wp2_with fail
       refine ZE.mono ?_;rintro e w5 ⟨gb,rfl,Bq,t⟩;have QF:=HP4.stay t;have q3:=QF.c3;have qf3:=QF.fz 3;have HP5:=QF;have nX:=H9 Bq;have Pf:=H9 t
       clear QF Bq t;go_wp2;go_ret;have l:=QA.o;rw[if_neg (by omega),if_neg (by omega)] at l;obtain⟨s1,s2,s3,s4⟩:=IQ;have hlt:=v.lt;have Cb:=Turns.setCell (fun k=>k=g) w5 ⟨g,3,U⟩ (.iface 242 (Q (M ⟨gb,0,U⟩))) rfl;refine .mk rO H n4 (fun k=>((((gB (fun k=>S k∧k<w.heap.size) w k∧k≠g)∧¬D k)∧k<C.heap.size)∨k=g)∨u.heap.size<=k) _ rfl (by rw[l];exact HN4.o) ?_ (by rw[l];exact(JA.o.stay Pf.o).turns Cb (fun k e b=>yx k (R b) e)) ?_ ?_ ZX ?_
       . rw[l];refine⟨A (R rfl),_,_,_,_,HP5.s3 _,.at3 gl2 gb (fun k=>u.heap.size<=k) rfl (((HL4.o.turns (Turns.of_below (S:=fun _=>False) Pf.o) (fun _ _ e=>e)).turns Cb (fun k e=>e.1.1.2)).mono (fun k _ e=>⟨⟨A (A e),e.1.1.2⟩,by have:=e.2;omega⟩)) ((nX.o.turns Cb (fun k e b=>by omega)).mono (fun k _ e=>⟨⟨R e,by omega⟩,e⟩))⟩
       . intro k e b;rcases e with e | e
         . exact yx k e b
         . have:=b.2;omega
       . intro k e;rcases e with e | e
         . exact ach k e
         . exact R (by omega)
       . have h:=acg.o.trans ((Turns.of_below (S:=fun k=>(S k∨So k)∨w.heap.size<=k) Pf.o).trans (Cb.mono (S':=fun k=>(S k∨So k)∨w.heap.size<=k) (fun k e=>by rw[e];exact A (A v.gm))) (fun _ e _=>e)) (fun _ e _=>e);exact⟨h.os,h.tape,h.output,h.size,fun k j hn=>h.block k j (fun e=>by
          rcases e with e | e
          . exact hn e
          . omega)⟩
theorem Jp (w:X)(S So:Nat->Prop)(g:Nat)(s:Rq.St)(c:UInt8)(ao:ak)(cap n:Nat)(es:List Rq.Ev)(h:jq w S g s)(a:Rq.Good s)(b:s.ph=0∨s.ph=1)(d:nM w So ao cap es)(hd:∀k,S k->¬So k)(f:es.length=n)(j:n<=90000)(i:Rq.Joined es)(l:Rq.Full es)(m:Rq.iO es<=90000):
 Calls prog 83 #[Q (M ⟨g,0,U⟩),Z ao n cap,I .u8 c.toNat] w fun e w'=>mX w S So g s c es e w':=by
 by_cases o:(Ln.next s.ln c).code=0
 . cases p:Ln.ends s.ln c
   . exact FB w S So g s c ao cap n es h a b o p d hd f i
   . exact Jo w S So g s c ao cap n es h a b p d hd f j i l m
 . exact Fz w S So g s c ao cap n es h a b o d hd f j i l m
theorem Jq (w:X)(S So:Nat->Prop)(g:Nat)(s:Rq.St)(c:UInt8)(ao:ak)(cap n:Nat)(es:List Rq.Ev)(h:jq w S g s)(b:Rq.Good s)(a:s.ph=2∨s.ph=3)(d:nM w So ao cap es)(hd:∀k,S k->¬So k)(f:es.length=n)(i:n<=90000)(j:Rq.Joined es)(l:Rq.Full es)(m:Rq.iO es<=90000):
 Calls prog 84 #[Q (M ⟨g,0,U⟩),Z ao n cap,I .u8 c.toNat] w fun e w'=>mX w S So g s c es e w':=by
 rcases a with a | a
 . exact Ez w S So g s c ao cap n es h b a d hd f i j l m
 . by_cases o:s.ck.ph=1
   . exact Fv w S So g s c ao cap n es h b a o d hd f i j l m
   . exact Fw w S So g s c ao cap n es h b a o d hd f i j l m
structure EH (w:X)(S:Nat->Prop)(g:Nat)(s:Rq.St)(l:av)(k:Nat)(ao:ak)(cap n:Nat)(wr:X):Prop where
 len:n=(Rq.join (Rq.outs s (l.take k))).length
 two:∃S' So',jq wr S' g (Rq.fold s (l.take k))∧nM wr So' ao cap (Rq.join (Rq.outs s (l.take k)))∧(∀i,S' i->¬So' i)∧(∀i,S' i->S i∨w.heap.size<=i)∧(∀i,So' i->S i∨w.heap.size<=i)
 turns:Turns S w wr
inductive Pg (w:X)(S:Nat->Prop)(g:Nat)(s:Rq.St)(l:av)(e:Ending)(w':X):Prop
 | mk (ao:ak) (cap n:Nat) (S' So':Nat->Prop) (he:e=Y (Z ao n cap)) (hn:n=(Rq.join (Rq.outs s l)).length) (hR:jq w' S' g (Rq.fold s l)) (hO:nM w' So' ao cap (Rq.join (Rq.outs s l))) (hd:∀i,S' i->¬So' i) (hS:∀i,S' i->S i∨w.heap.size<=i) (hSo:∀i,So' i->S i∨w.heap.size<=i) (hT:Turns S w w')
theorem EH.done {w:X}{S:Nat->Prop}{g:Nat}{s:Rq.St}{l:av}{k:Nat}{ao:ak}{cap n:Nat}{wr:X}(h:EH w S g s l k ao cap n wr)(b:Rq.outs s l=Rq.outs s (l.take k))(c:Rq.fold s l=Rq.fold s (l.take k)):Pg w S g s l (Y (Z ao n cap)) wr:=by
 obtain⟨d,a,e,f,i,j,m⟩:=h.two;exact .mk ao cap n d a rfl (by rw[b];exact h.len) (by rw[c];exact e) (by rw[b];exact f) i j m h.turns
theorem EH.step {w:X}{S:Nat->Prop}{g:Nat}{s:Rq.St}{l:av}{k:Nat}{S' b:Nat->Prop}{wr w':X}{o:ak}{a p:Nat}(u:k<l.length)(d:∀i,S' i->S i∨w.heap.size<=i)(c:∀i,b i->S i∨w.heap.size<=i)(q:Turns S w wr)
 (h:mX wr S' b g (Rq.fold s (l.take k)) l[k] (Rq.join (Rq.outs s (l.take k))) (Y (Z o p a)) w'):EH w S g s l (k+1) o a p w':=by
 obtain⟨T,W,n3,v,f,j,x,y,z,B,C,m,D⟩:=h;injection j with j;injection j with G H L;subst G;subst H;subst L;have r:=bM u;have t:Rq.join (Rq.outs s (l.take (k+1)))=Rq.join (Rq.join (Rq.outs s (l.take k))++(Rq.next (Rq.fold s (l.take k)) l[k]).2):=by
  rw[r,Rq.zX,Rq.ql]
 have n:Rq.fold s (l.take (k+1))=(Rq.next (Rq.fold s (l.take k)) l[k]).1:=by rw[r,Rq.zW]
 have N:=q.size;refine⟨by rw[t];exact x,⟨v,f,by rw[n];exact y,by rw[t];exact z,B,fun i e=>?_,fun i e=>?_⟩,q.trans D (fun i e hi=>?_)⟩
 . rcases C i e with e | e
   . exact d i e
   . exact R (by omega)
 . rcases m i e with e | e | e
   . exact d i e
   . exact c i e
   . exact R (by omega)
 . rcases e with e | e
   . rcases d i e with e | e
     . exact e
     . omega
   . rcases c i e with e | e
     . exact e
     . omega
theorem L8 (w:X)(S:Nat->Prop)(g:Nat)(s:Rq.St)(l:av)(bo:ak)(fU n:Nat)(h:jq w S g s)(hG:Rq.Good s)(hB:gN w bo fU l)(sK:l≠[]->∀a,bo=M a->¬S a.block)(hn:l.length=n)(hl:n<=40000):
 Calls prog 45 #[Q (M ⟨g,0,U⟩),Z bo n fU] w fun e w'=>Pg w S g s l e w':=by
 subst hn;have HB:=hB;have HR:=H9 h;have HG:=H9 hG;have ZE:=H9 sK
 go_enter func45,ntmps45;go_wp2;go_loopw [5,10] (fun vo vi wr=>∃(k:Nat) (W:ak) (i n:Nat),k<=l.length∧vi=I J k∧vo=Z W n i∧EH w S g s l k W i n wr) (fun _ vi _=>l.length-(intOf vi).toNat)
 case atStart =>
  refine⟨0,U,0,0,aA _,rfl,rfl,⟨rfl,⟨S,fun _=>False,HR.o,.bare,fun _ _ e=>e,fun _ e=>A e,fun _ e=>e.elim⟩,Turns.refl _ _⟩⟩
 case round =>
  obtain⟨k,W,i,n,hk,rfl,rfl,N⟩:=hrel;by_cases q:k<l.length
  . obtain⟨bb,oo,rfl,_⟩:=HB.lit (by omega);have hne:l≠[]:=by intro e;subst e;simp at q
    have hbc:=(HB.turns N.turns (fun a e=>ZE.o hne a e)).lit (by omega);obtain⟨b2,o2,t,u⟩:=hbc;injection t with t;injection t with hb2 ho2;subst hb2;subst ho2;have ck:=u k q;have hlt':(k:Int)<l.length:=by omega
    have hcap:=HB.1;obtain⟨S',v,d,Cu,m,x,OI⟩:=N.two;have j:Rq.Good (Rq.fold s (l.take k)):=HG.o.fold _;have T:=Rq.Qb s (l.take k);have htk:(l.take k).length<=40000:=by rw[bW];omega
    have p:=N.len.symm;have HD:=KD wr S' g (Rq.fold s (l.take k)) d;have Lx:∀(y:ak) (b z:Nat) (w':X),mX wr S' v g (Rq.fold s (l.take k)) l[k] (Rq.join (Rq.outs s (l.take k))) (Y (Z y z b)) w'->EH w S g s l (k+1) y b z w':=fun y b z w' hfs=>EH.step q x OI N.turns hfs;by_cases h4:(Rq.fold s (l.take k)).ph=4
    . rw[aI h4] at HD;have hdr:=Rq.sF (l.drop k) (Rq.fold s (l.take k)) h4;have HDn:Rq.outs s l=Rq.outs s (l.take k)∧Rq.fold s l=Rq.fold s (l.take k):=by
       constructor
       . conv=>lhs;rw[<-bV k l,Rq.oO,hdr.1,bU]
       . conv=>lhs;rw[<-bV k l,Rq.lQ,hdr.2]
      generalize l[k]=c at *;go_wp2_with (go_at_call 44;refine HD.mono ?_;rintro e w1 ⟨rfl,hw⟩;subst hw)
      go_ret;exact N.done HDn.1 HDn.2
    . rw[aJ h4] at HD;have hph:(Rq.fold s (l.take k)).ph=0∨(Rq.fold s (l.take k)).ph=1∨(Rq.fold s (l.take k)).ph=2∨(Rq.fold s (l.take k)).ph=3:=by have:=j.ph;omega
      by_cases C:(Rq.fold s (l.take k)).ph=0∨(Rq.fold s (l.take k)).ph=1
      . have HC:=H9 (Jp wr S' v g _ l[k] W i n _ d j C Cu m p (by omega) T.2.2.2 T.2.2.1 (by omega));have c3:wr.cell? ⟨g,3,U⟩=M .nilIface:=by
         obtain⟨_,lp,hp,bd,code,hP,hI⟩:=d;cases hI with
         | dead c hc h=>omega
         | Jz G h L=>exact hP.c3
         | MC G gh D h L H=>exact hP.c3
         | at2 G gb h L hb B=>omega
         | at3 G gb D h L B=>omega
        generalize l[k]=c at *;generalize Rq.fold s (l.take k)=sk at *;clear d Cu m j T htk p u h4 C hph x OI;go_wp2_with (first
         | (go_at_call 44;refine HD.mono ?_;rintro e w1 ⟨rfl,hw⟩;subst hw)
         | (go_at_call 83;refine HC.o.mono ?_;rintro e w2 f;obtain⟨y,b,z,S2,So2,he,r⟩:=id f;subst he;have pO:=H9 f;clear f r))
        go_roundw
        case rel=>exact⟨k+1,y,b,z,by omega,by go_num,rfl,Lx _ _ _ _ pO.o⟩
        case measure=>simp[intOf];omega
      . have aeN:(Rq.fold s (l.take k)).ph=2∨(Rq.fold s (l.take k)).ph=3:=by omega
        have HC:=Jq wr S' v g _ l[k] W i n _ d j aeN Cu m p (by omega) T.2.2.2 T.2.2.1 (by omega);obtain⟨tt,vv,c3⟩:∃tt vv,wr.cell? ⟨g,3,U⟩=M (.iface tt vv):=by
         obtain⟨_,lp,hp,bd,code,hP,hI⟩:=d;cases hI with
         | dead c hc h=>omega
         | Jz G h L=>omega
         | MC G gh D h L H=>omega
         | at2 G gb h L hb B=>exact⟨_,_,hP.c3⟩
         | at3 G gb D h L B=>exact⟨_,_,hP.c3⟩
        generalize l[k]=c at *;generalize Rq.fold s (l.take k)=sk at *;clear d Cu m j T htk p u h4 C aeN hph x OI;go_wp2_with (first
         | (go_at_call 44;refine HD.mono ?_;rintro e w1 ⟨rfl,hw⟩;subst hw)
         | (go_at_call 84;refine HC.mono ?_;rintro e w2 f;obtain⟨y,b,z,S2,So2,he,r⟩:=id f;subst he;have pO:=H9 f;clear f r))
        go_roundw
        case rel=>exact⟨k+1,y,b,z,by omega,by go_num,rfl,Lx _ _ _ _ pO.o⟩
        case measure=>simp[intOf];omega
  . obtain rfl:k=l.length:=by omega
    go_wp2;go_ret;exact N.done (by rw[bN]) (by rw[bN])
theorem Js:Builder.Extra prog Tryz.lays156_ren where
 sizeBuilder:=by kernel_rfl
 liesBuilder:=by kernel_rfl
 t5:=underlying5
 a5:=isAgg5
 z5:=Tryz.sizeOf5
 v5:=Tryz.zeroValue5
 infoByte:=by kernel_rfl
 cellsByte:=by kernel_rfl
 sizeByte:=by kernel_rfl
 neB5:=by decide
theorem EK (x y z:ay)(bk:Nat)(w:X)(c:w.cell? ⟨bk,0,U⟩=M (V x))(f:w.cell? ⟨bk,1,U⟩=M (V y))(g:w.cell? ⟨bk,2,U⟩=M (V z))(k:x.size+y.size+z.size<=1000000):
 Calls prog 207 #[Z (M ⟨bk,0,U⟩) 3 3,V ⟨#[32]⟩] w fun e w'=>e=Y (V ⟨(x.data.toList++32::(y.data.toList++32::z.data.toList)).toArray⟩)∧Below w.heap.size w w':=by
 have d:Lib.join (([x,y,z]:List ay).map (·.data.toList)) [32]=x.data.toList++32::(y.data.toList++32::z.data.toList):=by
  simp[Lib.join,List.intercalate,List.intersperse]
 have b:∀s:ay,s.data.toList.length=s.size:=fun s=>by rw[aO];rfl
 have h:=Any.strings_Join Tryz.lays156 Js bk 0 3 [x,y,z] ⟨#[32]⟩ w (fun j u a=>by
  match j,a with
  | 0,a=>injection a with a;subst a;simpa using c
  | 1,a=>injection a with a;subst a;simpa using f
  | 2,a=>injection a with a;subst a;simpa using g
  | j + 3, a => simp at a) (fH w _ c) (by simp) (by simp) (by
    show(Lib.join (([x,y,z]:List ay).map (·.data.toList)) [32]).length<=_;rw[d];have:=b x;have:=b y;have:=b z
    simp only[aV,aW];omega)
 have i:Lib.join (([x,y,z]:List ay).map (·.data.toList)) (⟨#[32]⟩:ay).data.toList=x.data.toList++32::(y.data.toList++32::z.data.toList):=d;rw[i] at h;exact h
end Go.Proofs.YthhklgjjnaeaoaaGreatDoor