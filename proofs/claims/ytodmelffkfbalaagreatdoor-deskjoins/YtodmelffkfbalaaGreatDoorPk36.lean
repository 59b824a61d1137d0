import Derived.Test.YtodmelffkfbalaaGreatDoorPk35
import Derived.Test.YtodmelffkfbalaaGreatDoorRqFld
open Go.Value renaming int->I,string->V,slice->Z,pointer->Q
open Go.IntKind renaming i64->J
open Go.Obj renaming cells->K
open Go.Ending renaming returned->Y
open Option renaming none->U,some->M
open Bool renaming false->F
open Or renaming inl->A
open Go renaming World->X
set_option maxHeartbeats 2000000
set_option maxRecDepth 100000
open Go.Proofs.Tryz
namespace Go.Proofs.YtodmelffkfbalaaGreatDoor
open Go.RowKit
inductive AV (w:X)(S:Nat->Prop)(g:Nat)(s:bN)(t:ab)(e:Ending)(w':X):Prop
 | quiet (s':bN) (he:e=Y (I J 0)) (hl:ip s t=(s',[])) (hR:dM w' (ay S w) g s') (hT:am S w w')
 | bad (c:Nat) (hc:c≠0) (he:e=Y (I J (c:Int))) (hl:ip s t=(kO s,[.fail c])) (lp hp bd:Value) (hP:ct w' g lp hp F bd 0) (hT:am S w w')
 | whole (k:Int) (gl gh:Nat) (D:Nat->Prop) (he:e=Y (I J 0)) (hk:mr s.c=.inr k) (ht:t=[]) (h1:s.a=1) (hP:ct w' g (Q (M ⟨gl,0,U⟩)) (Q (M ⟨gh,0,U⟩)) true .nilIface 0)
  (hL:cP w' (fun k=>(S k∧k≠g)∧¬D k) gl s.b) (hH:fV w' (fun k=>(S k∧k≠g)∧D k) gh { s.c with c:=k }) (hT:am S w w')
theorem C1 {t:ae}(h:t.data.toList=[]):t=⟨#[]⟩:=by
 have:t.data=#[]:=by
  apply Array.ext';simpa using h
 cases t;simp only at this;rw[this]
theorem Eb {t:ae}(h:t.data.toList≠[]):0<t.size:=by
 have a:t.data.toList.length=t.size:=by rw[cJ];rfl
 have:=kY.2 h;omega
theorem dM.r {w W:X}{S:Nat->Prop}{g:Nat}{s:bN}(h:dM w S g s):dM w (ay S W) g s:=h.a (fun _ _ e=>A e)
theorem Sa (w:X)(S:Nat->Prop)(g:Nat)(s:bN)(t:ae)(h:dM w S g s)(z:s.a=0)(ht:t.size<=200)(W:∀b∈t.data.toList,er b.toNat=true):
 Calls prog 166 #[Q (M ⟨g,0,U⟩),V t] w fun e w'=>AV w S g s t.data.toList e w':=by
 have HR:=aa h;obtain⟨hg,lp,hpp,bd,code,l,hI⟩:=h;cases hI with
 | dead c hc h4=>omega
 | NJ i C D h1 L H=>omega
 | at2 i gb h2 L hb B=>omega
 | at3 i gb D h3 L B=>omega
 | Kn i h0 L =>
   have c1:=l.r;by_cases m:t.data.toList=[]
   . obtain rfl:=C1 m;have j:Hid (ip s []=(s,[])):=by unfold Hid ip;rw[if_pos z,if_pos rfl]
     go_enter func166,ntmps166;go_wp2;go_ret;exact .quiet s rfl j.o HR.o.r (am.B _ _)
   . have n:=Eb m;have G:=qh t n;have HF:=aa (Rj w g _ _ t l (by omega) W);have j:Hid (ip s t.data.toList=match kP t.data.toList with | .inl c=>(kO s,[.fail c]) | .inr h=>({ s with a:=1,c:=h },[])):=by
      unfold Hid ip;rw[if_pos z,if_neg m];cases kP t.data.toList <;> rfl
     have N:=l;have p:=aa L;have d:=aa hg
     have q:∀c,kP t.data.toList=.inl c->c≠0:=fun c e=>by
      unfold kP at e;split at e
      . split at e
        . injection e with e;omega
        . split at e
          . injection e with e;omega
          . split at e
            . cases e
            . split at e
              . cases e
              . injection e with e;omega
      . injection e with e;omega
     generalize t.data.toList=tl at *;go_enter func166,ntmps166;go_wp2_with fail;refine HF.o.mono ?_;rintro e w1 (⟨c,rfl,r,hB⟩ | ⟨hd,C,rfl,r,u,v,x⟩)
     . have a:=aa r;have T:=aa hB
       go_wp2;go_ret;refine .bad c (q c a.o) rfl ?_ _ _ _ (N.a T.o) (am.f T.o);rw[j.o,a.o]
     . have a:=aa r;have M7:=aa u;have y:=aa v;have f:=aa x
       go_wp2;go_ret;refine .quiet { s with a:=1,c:=hd } rfl (by rw[j.o,a.o]) ⟨A d.o,_,_,_,_,M7.o,?_⟩ (f.o.j (fun k e=>by rw[e];exact d.o));refine .NJ i C (fun k=>w.heap.size<=k) rfl ?_ ?_
       . refine((p.o.a (S':=fun k=>(ay S w k∧k≠g)∧¬w.heap.size<=k) (fun k hk e=>⟨⟨A e.1,e.2⟩,by omega⟩)).f f.o (fun k e=>e.1.2))
       . refine y.o.a (fun k hk e=>⟨⟨Or.inr e,?_⟩,e⟩);have:=N.B;omega
theorem Sb (w:X)(S:Nat->Prop)(g:Nat)(s:bN)(t:ae)(h:dM w S g s)(hp:s.a=1)(hG:jo s.c)(ht:t.size<=200):
 Calls prog 166 #[Q (M ⟨g,0,U⟩),V t] w fun e w'=>AV w S g s t.data.toList e w':=by
 obtain⟨hg,lp,hpp,bd,code,r,hI⟩:=h;cases hI with
 | dead c j h4=>omega
 | Kn v h0 L=>omega
 | at2 v gb h2 L hb B=>omega
 | at3 v gb D h3 L B=>omega
 | NJ v u D h1 L H =>
   have c1:=r.r;have x:¬((fun k=>(S k∧k≠g)∧D k) g):=fun e=>e.1.2 rfl;have G:=r;have y:=aa L;have l:=aa hg;have R5:=aa H
   by_cases N:t.data.toList=[]
   . obtain rfl:=C1 N;have T:∀c,mr s.c=.inl c->ip s []=(kO s,[.fail c]):=fun c e=>by
      unfold ip;rw[if_neg (by omega),if_pos rfl,e]
     go_enter func166,ntmps166;go_wp2_with fail;refine(S4 w g u _ _ _ s.c r H x hG).mono ?_;rintro e W (⟨c,j,rfl,hf,d,f⟩ | ⟨k,rfl,hf,d,m,f⟩)
     . have n:=aa hf;have z:=aa d;have a:=aa f;have Ph:=aa j
       go_wp2;go_ret;exact .bad c Ph.o rfl (T c n.o) _ _ _ z.o (a.o.j (fun k e=>by
        rcases e with e | e
        . exact e.1.1
        . rw[e];exact l.o))
     . have n:=aa hf;have z:=aa d;have a:=aa f;have p:=aa m
       go_wp2;go_ret;refine .whole k v u D rfl n.o rfl hp z.o ?_ p.o (a.o.j (fun k e=>by
        rcases e with e | e
        . exact e.1.1
        . rw[e];exact l.o))
       exact y.o.f a.o (fun k e b=>by
        rcases b with b | b
        . exact e.2 b.2
        . exact e.1.2 b)
   . have hts:=Eb N;have hemp:=qh t hts;have q:ip s t.data.toList=if s.c.a.length=16 then (kO s,[.fail 8]) else if (aY t.data.toList).a≠0 then (kO s,[.fail (aY t.data.toList).a]) else ({ s with c:={ s.c with a:=s.c.a++[((aY t.data.toList).b,(aY t.data.toList).c)] } },[]):=by
      unfold ip;rw[if_neg (by omega),if_neg N]
     by_cases i:s.c.a.length=16
     . have C:=aa (On w g u _ _ _ s.c t r H i);rw[if_pos i] at q;generalize t.data.toList=tl at *;go_enter func166,ntmps166;go_wp2_with fail;refine C.o.mono ?_;rintro e W ⟨rfl,hw⟩;subst hw;go_wp2;go_ret;exact .bad 8 (by omega) rfl q _ _ _ G (am.B _ _)
     . rw[if_neg i] at q;by_cases j:(aY t.data.toList).a=0
       . have C:=aa (R9 w g u _ _ _ s.c t r H x (by have:=hG.a;omega) (by omega) j);rw[if_neg (fun e=>e j)] at q;generalize aY t.data.toList=fd at *;generalize t.data.toList=tl at *;go_enter func166,ntmps166;go_wp2_with fail;refine C.o.mono ?_;rintro e W ⟨rfl,d,m,f⟩;have z:=d;have p:=aa m;have a:=aa f
         go_wp2;go_ret;refine .quiet _ rfl q ⟨A l.o,_,_,_,_,z,?_⟩ (a.o.j (fun k e=>e.1.1));refine .NJ v u (fun k=>D k∨w.heap.size<=k) hp ?_ ?_
         . refine((y.o.a (S':=fun k=>((ay S w k∧k≠g)∧¬(D k∨w.heap.size<=k))) (fun k hk e=>⟨⟨A e.1.1,e.1.2⟩,fun b=>by
            rcases b with b | b
            . exact e.2 b
            . omega⟩)).f a.o (fun k e b=>e.2 (A b.2)))
         . refine p.o.a (fun k hk e=>?_);rcases e with e | e
           . exact⟨⟨A e.1.1,e.1.2⟩,A e.2⟩
           . exact⟨⟨Or.inr e,by have:=G.B;omega⟩,Or.inr e⟩
       . have C:=aa (Rk w g u _ _ _ s.c t r H i (by omega) j);rw[if_pos j] at q;have T:=q;have Ph:=aa j
         generalize (aY t.data.toList).a=cc at *;generalize t.data.toList=tl at *;go_enter func166,ntmps166;go_wp2_with fail;refine C.o.mono ?_;rintro e W ⟨rfl,hB⟩;go_wp2;go_ret;exact .bad cc Ph.o rfl T _ _ _ (G.a hB) (am.f hB)
def oK (tk tg:Bool)(adZ nb nf s c h:Nat):Nat :=
 if tk=F then 6 else if tg=F then 5 else if 200<adZ∨4000<nb then 4 else if 15<nf then 8 else if 0<s∨0<c then 12 else if h≠1 then 13 else 0
theorem Ec (w:X)(m t first:ae)(mi ln:Int)(l:aC)(fo bo:ag)(gy nf nb fZ:Nat)(hl:bq w fo gy nf (aI l))(T:l.length=nf)(hN:nf<=1000000)(hs:∀p∈l,p.1.size<=2000∧p.2.size<=2000)(hm:m.size<=1000000)(ht:t.size<=1000000):
 Calls prog 244 #[.agg #[V m,V t,I J mi,Z fo nf gy,I J ln],V first,Z bo nb fZ] w fun e w'=>e=Y (I J (oK (fj m.data.toList) (iU t.data.toList) first.size nb nf (aG gn l).length (aG go l).length (aG gv l).length:Int))∧Below w.heap.size w w':=by
 have G:Below w.heap.size w (w.alloc (K #[V m,V t,I J mi,Z fo nf gy,I J ln] 82)):=(ar _ _).alloc (ak _) _;have hV:∀W,Below (w.alloc (K #[V m,V t,I J mi,Z fo nf gy,I J ln] 82)).heap.size (w.alloc (K #[V m,V t,I J mi,Z fo nf gy,I J ln] 82)) W->bq W fo gy nf (aI l):=fun W y=>(hl.a G).a y;have z:=aa (fun W=>yi m W (by unfold maxLen;omega));have C:=aa (fun W=>BV t W ht);have N:=aa (fun W (y:Below (w.alloc (K #[V m,V t,I J mi,Z fo nf gy,I J ln] 82)).heap.size (w.alloc (K #[V m,V t,I J mi,Z fo nf gy,I J ln] 82)) W)=>yv l uz fo gy nf W (hV W y) T hN hs (by decide));have r:=aa (fun W (y:Below (w.alloc (K #[V m,V t,I J mi,Z fo nf gy,I J ln] 82)).heap.size (w.alloc (K #[V m,V t,I J mi,Z fo nf gy,I J ln] 82)) W)=>yv l uA fo gy nf W (hV W y) T hN hs (by decide));have B:=aa (fun W (y:Below (w.alloc (K #[V m,V t,I J mi,Z fo nf gy,I J ln] 82)).heap.size (w.alloc (K #[V m,V t,I J mi,Z fo nf gy,I J ln] 82)) W)=>yv l uy fo gy nf W (hV W y) T hN hs (by decide));simp only[Em,En,El] at N r B;have H:(w.alloc (K #[V m,V t,I J mi,Z fo nf gy,I J ln] 82)).cell? ⟨w.heap.size,3,U⟩=M (Z fo nf gy):=by rw[World.cell?_alloc_mark];rfl
 have q:Hid (∀W,Below (w.alloc (K #[V m,V t,I J mi,Z fo nf gy,I J ln] 82)).heap.size (w.alloc (K #[V m,V t,I J mi,Z fo nf gy,I J ln] 82)) W->W.cell? ⟨w.heap.size,3,U⟩=M (Z fo nf gy)):=fun W y=>(y.cell (bY _ _ H)).trans H;have g:=aa G;have Dy:Hid (oK (fj m.data.toList) (iU t.data.toList) first.size nb nf (aG gn l).length (aG go l).length (aG gv l).length=if fj m.data.toList=F then 6 else if iU t.data.toList=F then 5 else if 200<first.size∨4000<nb then 4 else if 15<nf then 8 else if 0<(aG gn l).length∨0<(aG go l).length then 12 else if (aG gv l).length≠1 then 13 else 0):=rfl;generalize oK (fj m.data.toList) (iU t.data.toList) first.size nb nf (aG gn l).length (aG go l).length (aG gv l).length=aaJ at Dy ⊢;generalize (aG gn l).length=vs at *;generalize (aG go l).length=vc at *;generalize (aG gv l).length=vh at *;generalize fj m.data.toList=tk at *;generalize iU t.data.toList=tg at *;simp only[uz] at N;simp only[uA] at r;simp only[uy] at B;have c:=Dy.o;clear G hV H hl hs T Dy;cases tk
 . rw[if_pos rfl] at c;have j:=aa c;clear c;go_enter func244,ntmps244;go_wp2_with fail;refine(z.o _).mono ?_;rintro e D ⟨rfl,k⟩;subst k;go_wp2;go_ret;exact⟨ld (by rw[j.o];rfl),g.o⟩
 . rw[if_neg (by simp)] at c;cases tg
   . rw[if_pos rfl] at c;have j:=aa c;clear c;go_enter func244,ntmps244;go_wp2_with fail;refine(z.o _).mono ?_;rintro e D ⟨rfl,k⟩;subst k;go_wp2_with fail;refine(C.o _).mono ?_;rintro e i ⟨rfl,a⟩;have b:=aa a;have s:=q.o i a;clear a;go_wp2;go_ret;exact⟨ld (by rw[j.o];rfl),g.o.trans (b.o.mono (by simp))⟩
   . rw[if_neg (by simp)] at c;by_cases h1:200<first.size
     . have u1:decide ((first.size:Int) > 200)=true:=br (by omega);rw[if_pos (A h1)] at c;have j:=aa c;clear c;go_enter func244,ntmps244;go_wp2_with fail;refine(z.o _).mono ?_;rintro e D ⟨rfl,k⟩;subst k;go_wp2_with fail;refine(C.o _).mono ?_;rintro e i ⟨rfl,a⟩;have b:=aa a;have s:=q.o i a;clear a;go_wp2;go_ret;exact⟨ld (by rw[j.o];rfl),g.o.trans (b.o.mono (by simp))⟩
     . have u1:decide ((first.size:Int) > 200)=F:=ba (by omega);by_cases h2:4000<nb
       . have u2:decide ((nb:Int) > 4000)=true:=br (by omega);rw[if_pos (Or.inr h2)] at c;have j:=aa c;clear c;go_enter func244,ntmps244;go_wp2_with fail;refine(z.o _).mono ?_;rintro e D ⟨rfl,k⟩;subst k;go_wp2_with fail;refine(C.o _).mono ?_;rintro e i ⟨rfl,a⟩;have b:=aa a;have s:=q.o i a;clear a;go_wp2;go_ret;exact⟨ld (by rw[j.o];rfl),g.o.trans (b.o.mono (by simp))⟩
       . have u2:decide ((nb:Int) > 4000)=F:=ba (by omega);rw[if_neg (fun e=>by rcases e with e | e;exact h1 e;exact h2 e)] at c;by_cases h3:15<nf
         . have u3:decide ((nf:Int) > 15)=true:=br (by omega);rw[if_pos h3] at c;have j:=aa c;clear c;go_enter func244,ntmps244;go_wp2_with fail;refine(z.o _).mono ?_;rintro e D ⟨rfl,k⟩;subst k;go_wp2_with fail;refine(C.o _).mono ?_;rintro e i ⟨rfl,a⟩;have b:=aa a;have s:=q.o i a;clear a;go_wp2;go_ret;exact⟨ld (by rw[j.o];rfl),g.o.trans (b.o.mono (by simp))⟩
         . have u3:decide ((nf:Int) > 15)=F:=ba (by omega);rw[if_neg h3] at c;by_cases h4:0<vs
           . have u4:decide ((vs:Int) > 0)=true:=br (by omega);rw[if_pos (A h4)] at c;have j:=aa c;clear c;go_enter func244,ntmps244;go_wp2_with fail;refine(z.o _).mono ?_;rintro e D ⟨rfl,k⟩;subst k;go_wp2_with fail;refine(C.o _).mono ?_;rintro e i ⟨rfl,a⟩;have b:=aa a;have s:=q.o i a;clear a;go_wp2_with fail;refine(N.o i b.o).mono ?_;rintro e v ⟨rfl,f⟩;have d:=aa (au b.o f);have S:=q.o v d.o;clear f s;go_wp2;go_ret;exact⟨ld (by rw[j.o];rfl),g.o.trans (d.o.mono (by simp))⟩
           . have u4:decide ((vs:Int) > 0)=F:=ba (by omega);by_cases h5:0<vc
             . have u5:decide ((vc:Int) > 0)=true:=br (by omega);rw[if_pos (Or.inr h5)] at c;have j:=aa c;clear c;go_enter func244,ntmps244;go_wp2_with fail;refine(z.o _).mono ?_;rintro e D ⟨rfl,k⟩;subst k;go_wp2_with fail;refine(C.o _).mono ?_;rintro e i ⟨rfl,a⟩;have b:=aa a;have s:=q.o i a;clear a;go_wp2_with fail;refine(N.o i b.o).mono ?_;rintro e v ⟨rfl,f⟩;have d:=aa (au b.o f);have S:=q.o v d.o;clear f s;go_wp2_with fail;refine(r.o v d.o).mono ?_;rintro e L ⟨rfl,n⟩;have x:=aa (au d.o n);have r3:=q.o L x.o;clear n S;go_wp2;go_ret;exact⟨ld (by rw[j.o];rfl),g.o.trans (x.o.mono (by simp))⟩
             . have u5:decide ((vc:Int) > 0)=F:=ba (by omega);rw[if_neg (fun e=>by rcases e with e | e;exact h4 e;exact h5 e)] at c;by_cases h6:vh=1
               . have u6:((vh:Int) != 1)=F:=by rw[bne_eq_false_iff_eq];omega
                 rw[if_neg (fun e=>e h6)] at c;have j:=aa c;clear c h6;go_enter func244,ntmps244;go_wp2_with fail;refine(z.o _).mono ?_;rintro e D ⟨rfl,k⟩;subst k;go_wp2_with fail;refine(C.o _).mono ?_;rintro e i ⟨rfl,a⟩;have b:=aa a;have s:=q.o i a;clear a;go_wp2_with fail;refine(N.o i b.o).mono ?_;rintro e v ⟨rfl,f⟩;have d:=aa (au b.o f);have S:=q.o v d.o;clear f s;go_wp2_with fail;refine(r.o v d.o).mono ?_;rintro e L ⟨rfl,n⟩;have x:=aa (au d.o n);have r3:=q.o L x.o;clear n S;go_wp2_with fail;refine(B.o L x.o).mono ?_;rintro e w5 ⟨rfl,u⟩;have oC:=aa (au x.o u);clear u r3;go_wp2;go_ret;exact⟨ld (by rw[j.o];rfl),g.o.trans (oC.o.mono (by simp))⟩
               . have u6:((vh:Int) != 1)=true:=by rw[di];omega
                 rw[if_pos h6] at c;have j:=aa c;clear c h6;go_enter func244,ntmps244;go_wp2_with fail;refine(z.o _).mono ?_;rintro e D ⟨rfl,k⟩;subst k;go_wp2_with fail;refine(C.o _).mono ?_;rintro e i ⟨rfl,a⟩;have b:=aa a;have s:=q.o i a;clear a;go_wp2_with fail;refine(N.o i b.o).mono ?_;rintro e v ⟨rfl,f⟩;have d:=aa (au b.o f);have S:=q.o v d.o;clear f s;go_wp2_with fail;refine(r.o v d.o).mono ?_;rintro e L ⟨rfl,n⟩;have x:=aa (au d.o n);have r3:=q.o L x.o;clear n S;go_wp2_with fail;refine(B.o L x.o).mono ?_;rintro e w5 ⟨rfl,u⟩;have oC:=aa (au x.o u);clear u r3;go_wp2;go_ret;exact⟨ld (by rw[j.o];rfl),g.o.trans (oC.o.mono (by simp))⟩
theorem vD:Builder.Extra prog Tryz.lays156_ren where
 sizeBuilder:=by kernel_rfl
 liesBuilder:=by kernel_rfl
 t5:=underlying5
 a5:=isAgg5
 z5:=Tryz.sizeOf5
 v5:=Tryz.zeroValue5
 infoByte:=by kernel_rfl
 cellsByte:=by kernel_rfl
 sizeByte:=by kernel_rfl
 neB5:=by decide
theorem C3 (x y z:ae)(bk:Nat)(w:X)(c:w.cell? ⟨bk,0,U⟩=M (V x))(f:w.cell? ⟨bk,1,U⟩=M (V y))(g:w.cell? ⟨bk,2,U⟩=M (V z))(k:x.size+y.size+z.size<=1000000):
 Calls prog 199 #[Z (M ⟨bk,0,U⟩) 3 3,V ⟨#[32]⟩] w fun e w'=>e=Y (V ⟨(x.data.toList++32::(y.data.toList++32::z.data.toList)).toArray⟩)∧Below w.heap.size w w':=by
 have d:Lib.join (([x,y,z]:List ae).map (·.data.toList)) [32]=x.data.toList++32::(y.data.toList++32::z.data.toList):=by
  simp[Lib.join,List.intercalate,List.intersperse]
 have b:∀s:ae,s.data.toList.length=s.size:=fun s=>by rw[cJ];rfl
 have h:=Any.strings_Join Tryz.lays156 vD bk 0 3 [x,y,z] ⟨#[32]⟩ w (fun j u a=>by
  match j,a with
  | 0,a=>injection a with a;subst a;simpa using c
  | 1,a=>injection a with a;subst a;simpa using f
  | 2,a=>injection a with a;subst a;simpa using g
  | j + 3, a => simp at a) (bY w _ c) (by simp) (by simp) (by
    show(Lib.join (([x,y,z]:List ae).map (·.data.toList)) [32]).length<=_;rw[d];have:=b x;have:=b y;have:=b z
    simp only[aD,bG];omega)
 have i:Lib.join (([x,y,z]:List ae).map (·.data.toList)) (⟨#[32]⟩:ae).data.toList=x.data.toList++32::(y.data.toList++32::z.data.toList):=d;rw[i] at h;exact h
theorem jC.f {w:X}{S:Nat->Prop}{t:Nat}{ao:ag}{cap b j:Nat}{l:ab}{d:Array Value}{T:Nat}{f:Nat×Nat}(h:jC w S t ao cap l)(g:w.heap[b]? = M (K d T f))(i:T≠t)(v:Value):jC (w.setCell ⟨b,j,U⟩ v) S t ao cap l:=by
 rcases h with h | ⟨m,c,n⟩
 . exact A h
 . refine Or.inr ⟨m,c.j (am.r (fun k=>k=b) w ⟨b,j,U⟩ v rfl) (fun a e o=>?_),n⟩;subst e;exact gH g c i (lL M o)
theorem jC.r {w:X}{S:Nat->Prop}{t:Nat}{ao:ag}{cap b:Nat}{l:ab}{d:Array Value}{T:Nat}{f:Nat×Nat}(h:jC w S t ao cap l)(g:w.heap[b]? = M (K d T f))(i:T≠t):jC w (fun k=>S k∧k≠b) t ao cap l:=by
 rcases h with h | ⟨j,c,m⟩
 . exact A h
 . refine Or.inr ⟨j,c,fun a e=>⟨m a e,fun n=>?_⟩⟩;subst e;exact gH g c i (lL M n)
def ky (w:X)(S:Nat->Prop)(b:Nat)(l:ab):Prop :=
 ∃(p:Value) (ao:ag) (cap:Nat),(p=Q U∨p=Q (M ⟨b,0,U⟩))∧w.heap[b]? = M (K #[p,Z ao l.length cap] 167 (0,0))∧S b∧jC w S 5 ao cap l
section
variable {w w':X} {S S':Nat->Prop} {b:Nat} {l:ab}
theorem ky.j (w:X):ky (w.alloc (K #[Q U,Z U 0 0] 167)) (fun k=>w.heap.size<=k) w.heap.size [] :=
 ⟨_,U,0,A rfl,aX w _,ak _,jC.j _ _ _⟩
theorem ky.f (h:ky w S b l):b<w.heap.size:=by
 obtain⟨p,d,a,_,c,_⟩:=h;exact(bO.1 c).1
theorem ky.y (h:ky w S b l)(c:am S' w w')(d:∀k,S k->¬S' k):ky w' S b l:=by
 obtain⟨p,f,a,g,i,e,j⟩:=h;exact⟨p,f,a,g,c.y i (d b e),e,j.y c d⟩
theorem ky.a (h:ky w S b l)(d:∀k,k<w.heap.size->S k->S' k):ky w S' b l:=by
 have a:=h.f;obtain⟨p,e,c,f,g,i,j⟩:=h;exact⟨p,e,c,f,g,d b a i,j.a d⟩
theorem ky.r (h:ky w S b l)(a:Below w.heap.size w w'):ky w' S b l:=h.y (am.f (S:=fun _=>False) a) (fun _ _ e=>e)
theorem C5 (h:ky w S b l)(s:ae)(r:l.length+s.size<=100000000000000):
 Calls prog 84 #[Q (M ⟨b,0,U⟩),V s] w fun e w'=>e=Y (.tuple #[I J s.size,.nilIface])∧ky w' (ay S w) b (l++s.data.toList)∧am S w w':=by
 obtain⟨i0,z,B,C,D⟩:=info_parts gG;have hlt:=h.f;have t:s.data.toList.length=s.size:=cH s;obtain⟨p,G,q,hp,j,H,L⟩:=h;obtain⟨f,N,hC⟩:∃f,(f.heap[b]? = M (K #[Q (M ⟨b,0,U⟩),Z G l.length q] 167 (0,0))∧jC f S 5 G q l∧am (fun k=>k=b) w f∧f.heap.size=w.heap.size)∧Calls prog 138 #[Q (M ⟨b,0,U⟩)] w fun e w'=>e=Y (.tuple #[])∧w'=f:=by
  rcases hp with rfl | rfl
  . refine⟨w.setCell ⟨b,0,U⟩ (Q (M ⟨b,0,U⟩)),⟨aP w b 0 _ _ _ j,L.f j (by decide) _,am.r _ w _ _ rfl,by simp[World.setCell]⟩,?_⟩;exact Any.Builder_copyCheck_fresh { Tryz.lays156 with } vD.toX72 b w (aq w b 0 _ _ _ j) (by simp[World.shape?,j];rfl) (aN w b 0 _ _ j)
  . refine⟨w,⟨j,L,am.B _ _,rfl⟩,?_⟩;exact Any.Builder_copyCheck_used { Tryz.lays156 with } vD.toX72 b w (aq w b 0 _ _ _ j)
 obtain⟨d,u,v,T⟩:=N;have c0:=aq f b 0 _ _ _ d;have c1:=aq f b 1 _ _ _ d;simp at c0 c1;have hX:∀m a c,jC c (ay (fun k=>S k∧k≠b) f) 5 m a (l++s.data.toList)->am (fun k=>S k∧k≠b) f c->(c.cell? ⟨b,1,U⟩=M (Z G l.length q)∧c.frozen? ⟨b,1,U⟩=F)∧ky (c.setCell ⟨b,1,U⟩ (Z m (l.length+s.size) a)) (ay S w) b (l++s.data.toList)∧am S w (c.setCell ⟨b,1,U⟩ (Z m (l.length+s.size) a)):=fun m a c h1 h2=>by
  have g:=h2.y d (fun e=>e.2 rfl);refine⟨⟨by simpa using aq c b 1 _ _ _ g,aN c b 1 _ _ g⟩,⟨Q (M ⟨b,0,U⟩),m,a,Or.inr rfl,?_,A H,(h1.f g (by decide) _).a (fun k _ e=>?_)⟩,?_⟩
  . have:=aP c b 1 _ _ (Z m (l.length+s.size) a) g;rw[aD,t];exact this
  . rcases e with e | e
    . exact A e.1
    . exact Or.inr (by omega)
  . exact((v.j (S':=S) (fun k e=>by rw[e];exact H)).a h2 (fun i e _=>e.1)).a (am.r (fun k=>k=b) c ⟨b,1,U⟩ _ rfl) (fun i e _=>by rw[e];exact H)
 have HB:=aa (u.r d (by decide));have HX:=aa hX
 obtain⟨n,W⟩:∃n,l.length=n:=⟨_,rfl⟩;have HN:=aa W;rw[W] at c1 r HX;clear hp j L u d v T W t hX;go_enter func84,ntmps84;go_wp2_with fail;refine hC.mono ?_;rintro e w' ⟨rfl,rfl⟩;go_wp2_with (at_builtin;refine In rfl (.tmp 12) (.tmp 13) 31 9 rfl 5 i0 underlying31 underlying9 z B C D rfl HN.o (HB.o) s rfl (by omega) ?_;intro m a c x y;obtain⟨⟨d0,d1⟩,hY⟩:=HX.o m a c x y;have HY:=aa hY;clear x y hY)
 go_ret2;exact⟨rfl,HY.o⟩
theorem C6 (h:ky w S b l)(t:l.length<=100000000000000):
 Calls prog 86 #[Q (M ⟨b,0,U⟩)] w fun e w'=>e=Y (V ⟨l.toArray⟩)∧am S w w':=by
 obtain⟨p,ao,a,hp,u,hS,B⟩:=h;rcases B with ⟨rfl,rfl,rfl⟩ | ⟨d,v,C⟩
 . have f:=fun(W:X) q=>Lib.run_unsafeString_none (P:=prog) W 230 3 9 q;have D:w.drew.cell? ⟨b,1,U⟩=M (Z U 0 0):=by simpa using aq w.drew b 1 _ _ _ u
   have i:(Builtin.unsafeSliceData_ #[31] 230 #[Z U 0 0]).run prog w.drew=.ok (Q U) w.drew:=rfl;go_enter func86,ntmps86;go_wp2;go_region
   all_goals (go_wp2;go_ret;exact⟨rfl,am.H S w 1⟩)
 . obtain⟨g,a,c,G,hg,y,H,L,N,m⟩:=v.2.resolve_left (fun e=>d (ix e.2));injection G with T e2 e3;subst T;subst e3;have hl0:l.length≠0:=fun e=>d (ix e);have r:=C _ rfl;have D:w.drew.cell? ⟨b,1,U⟩=M (Z (M ⟨g,0,U⟩) l.length a):=by simpa using aq w.drew b 1 _ _ _ u
   have i:(Builtin.unsafeSliceData_ #[31] 230 #[Z (M ⟨g,0,U⟩) l.length a]).run prog w.drew=.ok (Q (M ⟨g,0,U⟩)) w.drew:=Lib.run_unsafeSliceData_row _ _ _ _ _ _ (by omega);have f:(Builtin.unsafeString_ #[230,3] 9 #[Q (M ⟨g,0,U⟩),I J l.length]).run prog w.drew=.ok (V ⟨l.toArray⟩) (w.drew.freeze ⟨g,0,U⟩ l.length):=by
    refine Lib.run_unsafeString_row w.drew 230 3 9 5 underlying230 vD.cellsByte g c.size (by have s:w.drew.heap[g]? = M (K c 5 (0,0)):=y;simp[World.shape?,s]) l d (by omega) (by omega) ?_;intro j x hx;obtain⟨hj,rfl⟩:=fe.1 hx;exact World.ownsRow.cells v (g:=g) rfl j _ (jM l j hj)
   have z:am S w (w.drew.freeze ⟨g,0,U⟩ l.length):=by
    unfold World.freeze;split
    . exact am.H S w 1
    . exact⟨rfl,rfl,rfl,by simp,fun k hk hn=>by
       simp only[Array.getElem?_modify];rw[if_neg (fun e=>hn (by rw[<-e];exact r))];rfl⟩
   have HT:=aa z;clear z y m;generalize l.length=n at *;go_enter func86,ntmps86;go_wp2;go_region
   all_goals (go_wp2;go_ret;exact⟨rfl,HT.o⟩)
