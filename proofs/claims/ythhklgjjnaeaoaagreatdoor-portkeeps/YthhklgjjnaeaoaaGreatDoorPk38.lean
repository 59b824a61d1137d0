/- Small texts, one behind the other: SqE, SqF, SqG. -/
import Derived.Test.YthhklgjjnaeaoaaGreatDoorPk33
import Derived.Deep.RegionHeld3
import Derived.Deep.RegionLaw
open Go.Value renaming int->I,slice->Z,pointer->Q
open Go.IntKind renaming i64->J
open Go.Obj renaming cells->K
open Go.Ending renaming returned->Y
open Option renaming none->U,some->M
open Go renaming World->X
set_option maxHeartbeats 2000000
set_option maxRecDepth 100000
open Go.Proofs.Tryz
namespace Go.Proofs.YthhklgjjnaeaoaaGreatDoor
open Go.RowKit
theorem Did.grow {w:X}{S:Nat->Prop}{y g b i:Nat}{s:Sp.St}(h:ny w S y 92 5 g s)(H:kL w g b s.l.length)(L:i<s.l.length):∃q:wU,w.cell? ⟨b,i*5+3,U⟩=M (Z q.bo s.l[i].bytes.length q.fU)∧gK w (fun _=>True) 5 q.bo q.fU s.l[i].bytes ∧
 (∀c,Turns (fun k=>jy s.l[i].bytes q.bo=M k) w c->c.cell? ⟨b,i*5+3,U⟩=M (Z q.bo s.l[i].bytes.length q.fU)∧c.frozen? ⟨b,i*5+3,U⟩=false) ∧
 ∀c j m bs n (r:Sp.St×Nat),gK c (fun k=>jy s.l[i].bytes q.bo=M k∨w.heap.size<=k) 5 j m bs->Turns (fun k=>jy s.l[i].bytes q.bo=M k) w c->n=bs.length->r=(⟨s.l.set i { s.l[i] with bytes:=bs },s.last⟩,0)->Did S y w g r (Y (I J 0)) (c.setCell ⟨b,i*5+3,U⟩ (Z j n m)):=by
 obtain⟨ao,p,N,c1,f0,f1,z,T,W⟩:=h.cells;obtain⟨B,V9,o⟩:=H;rw[N] at o;injection o with o;injection o with ha _ _;subst ha;obtain⟨g2,q,d,hS2,f,h0,h1,h2,C,h4,hf,t,hK⟩:=W.lies i L;injection d with d;injection d with d;subst d;have u:jy s.l[i].bytes q.bo≠M b:=fun e=>(t.blk e).1.2 rfl;have hng:jy s.l[i].bytes q.bo≠M g:=fun e=>(t.blk e).1.1.2 rfl;refine⟨q,C,t.mono (fun _ _ _=>trivial),fun c v=>?_,fun c j m bs n r hB v hn hr=>?_⟩
 . have D:=v.block b f u;exact⟨by rw[fO (a:=⟨b,i*5+3,U⟩) D];exact C,by rw[fP (a:=⟨b,i*5+3,U⟩) D];exact hf _⟩
 . subst hr;obtain⟨x,G⟩:=hK c j m bs n hB v hn;have hgl:=(aL.1 z).1;refine⟨rfl,⟨M ⟨b,0,U⟩,p,?_,Or.inl T,?_⟩,G.mono (fun k e=>e.1)⟩
   . have:=G.row z (fun e=>e.2 rfl);simpa using this
   . refine x.mono (fun k _ e=>?_);rcases e with e | e
     . exact⟨Or.inl e.1,e.2⟩
     . exact⟨Or.inr e,by omega⟩
theorem Om (s:Sp.St)(S:Nat->Prop)(g G i b1 H L:Nat)(f:Int)(N:ak)(m d:Nat)(b:av)(w:X)(h:gL w S g s)(hp:kL w g G s.l.length)(hi:i<s.l.length)(ok:Sp.Ok s)
 (d1:w.cell? ⟨b1,0,U⟩=M (I J f)) (d2:w.cell? ⟨H,0,U⟩=M (Z N d m)) (d3:w.cell? ⟨L,0,U⟩=M (Q (M ⟨g,0,U⟩))) (hb:gN w N m b) (v:b.length=d) (hN:d<=1000000) :
 Calls prog 255 #[Q (M ⟨G,i*5,U⟩),Q (M ⟨b1,0,U⟩),Q (M ⟨H,0,U⟩),Q (M ⟨L,0,U⟩)] w (Did S 124 w g (Sp.xO s f b i s.l[i])):=by
 obtain⟨q,h0,h1,h2,h3,h4,hf,hB⟩:=kL.up h hp hi;have hk:=ok.all _ (aC hi);have k0:=hk.Ay;have k1:=hk.CG;have k2:=hk.long;have k3:=hk.fits
 have hq:=ok.quota;have mO:=ok.few
 by_cases hs:s.l[i].sent=0
 . have e1:¬s.l[i].sent≠0:=by simpa using hs
   rw[hs] at h4;by_cases T:f=s.l[i].bytes.length
   . have e2:¬f≠s.l[i].bytes.length:=by simpa using T
     have HM:=fun n=>Wq G (i*5) s.l[i].size (w.drewN n) (by rw[World.cell?_drewN];exact h1);have HU:=fun W (y:Below w.heap.size w W)=>RU s S g W (h.stay y) (by omega) (by omega);by_cases hl:(if s.l[i].size=-1 then 2000 else s.l[i].size)<(s.l[i].bytes.length:Int)+d
     . have z:∀W,Below w.heap.size w W->Did S 124 w g (Sp.xO s f b i s.l[i]) (Y (I J (4:Nat))) W:=fun W y=>Did.none_ h y (by
        unfold Sp.xO;rw[if_neg e1,if_neg e2,if_pos];rw[v];split at hl <;> omega)
       generalize s.l[i]=u at *;generalize (if u.size=-1 then 2000 else u.size)=mo at *;have hw1:IntKind.i64.wrap ((u.bytes.length:Int)+d)=(u.bytes.length:Int)+d:=ko (by omega) (by omega);subst T;go_enter func255,ntmps255;go_wp2;go_quiet (fail)
       go_wp2;go_quiet ((go_at_call 256;exact(HM _).mono (fun e j D=>⟨D.1,_,D.2⟩)))
       go_wp2;go_ret;exact z _ ⟨rfl,rfl,rfl,aM _,fun _ _=>rfl⟩
     . have e3:¬(2000<s.l[i].bytes.length+b.length∨(0<=s.l[i].size∧s.l[i].size<(s.l[i].bytes.length:Int)+b.length)):=by
        rw[v];split at hl <;> omega
       have HC:∀W,Below w.heap.size w W->W.cell? ⟨H,0,U⟩=M (Z N d m)∧W.cell? ⟨L,0,U⟩=M (Q (M ⟨g,0,U⟩)) :=fun W y=>⟨by rw[y.cell (p:=⟨H,0,U⟩) (fH w _ d2)];exact d2,by rw[y.cell (p:=⟨L,0,U⟩) (fH w _ d3)];exact d3⟩;have n3:¬((s.l[i].bytes.length:Int)+d > if s.l[i].size=-1 then 2000 else s.l[i].size):=by omega
       by_cases hu:6000<Sp.used s.l+d
       . have z:∀W,Below w.heap.size w W->Did S 124 w g (Sp.xO s f b i s.l[i]) (Y (I J (16:Nat))) W:=fun W y=>Did.none_ h y (by
          unfold Sp.xO;rw[if_neg e1,if_neg e2,if_neg e3,if_pos (by rw[v];exact hu)])
         generalize s.l[i]=u at *;generalize (if u.size=-1 then 2000 else u.size)=mo at *;have hw1:IntKind.i64.wrap ((u.bytes.length:Int)+d)=(u.bytes.length:Int)+d:=ko (by omega) (by omega);have hw2:IntKind.i64.wrap ((Sp.used s.l:Int)+d)=(Sp.used s.l:Int)+d:=ko (by omega) (by omega);have tu:decide ((Sp.used s.l:Int)+d > 6000)=true:=by rw[bP];omega
         generalize Sp.used s.l=us at *;subst T;go_enter func255,ntmps255;go_wp2;go_quiet (fail)
         go_wp2;go_quiet ((go_at_call 256;exact(HM _).mono (fun e j D=>⟨D.1,_,D.2⟩)))
         go_wp2;go_region_held3 (fun w'=>w'.cell? ⟨H,0,U⟩=M (Z N d m)∧w'.cell? ⟨L,0,U⟩=M (Q (M ⟨g,0,U⟩))) (go_keep) (first | (go_at_call 257;refine(HU _ ?_).mono ?_;(exact⟨rfl,rfl,rfl,aM _,fun _ _=>rfl⟩);rintro e j ⟨rfl,t⟩;have a:Below w.heap.size w j:=then_ (kX w _) t;obtain⟨c2,c3⟩:=HC j a;have B:=H9 a;clear t a))
         all_goals
          go_wp2;go_ret;exact z _ B.o
       . have z:Hid (∀j,Below w.heap.size w j->∃x:wU,j.cell? ⟨G,i*5+3,U⟩=M (Z x.bo s.l[i].bytes.length x.fU)∧gK j.drew (fun _=>True) 5 x.bo x.fU s.l[i].bytes ∧
          (∀C,Turns (fun k=>jy s.l[i].bytes x.bo=M k) j.drew C->C.cell? ⟨G,i*5+3,U⟩=M (Z x.bo s.l[i].bytes.length x.fU)∧C.frozen? ⟨G,i*5+3,U⟩=false) ∧
          ∀C nZ jT,gK C (fun k=>jy s.l[i].bytes x.bo=M k∨j.drew.heap.size<=k) 5 nZ jT (s.l[i].bytes++b)->Turns (fun k=>jy s.l[i].bytes x.bo=M k) j.drew C->Did S 124 w g (Sp.xO s f b i s.l[i]) (Y (I J 0)) (C.setCell ⟨G,i*5+3,U⟩ (Z nZ (s.l[i].bytes.length+d) jT))):=fun j t=>by
          have a:=t.trans (gy _ _);obtain⟨x,g1,g2,g3,g4⟩:=Did.grow (h.stay a) (hp.stay a) hi;refine⟨x,g1,g2,g3,fun C nZ jT hB hT=>Did.from_ a (g4 C nZ jT _ _ _ hB hT (by rw[aV,v]) ?_)⟩;unfold Sp.xO;rw[if_neg e1,if_neg e2,if_neg e3,if_neg (by rw[v];exact hu)]
         have HBS:=fun j (y:Below w.heap.size w j)=>gN.stay (gN.stay hb y) (gy _ j);obtain⟨i0,hi0,hz0,hz1,hz2⟩:=info_parts jJ;have Hi:=hi0;have kY:=H9 hz0;have kT:=H9 hz1;have kZ:=H9 hz2
         generalize s.l[i]=u at *;generalize (if u.size=-1 then 2000 else u.size)=mo at *;have hw1:IntKind.i64.wrap ((u.bytes.length:Int)+d)=(u.bytes.length:Int)+d:=ko (by omega) (by omega);have hw2:IntKind.i64.wrap ((Sp.used s.l:Int)+d)=(Sp.used s.l:Int)+d:=ko (by omega) (by omega);have tu:decide ((Sp.used s.l:Int)+d > 6000)=false:=by rw[bO];omega
         generalize Sp.used s.l=us at *;subst T;go_enter func255,ntmps255;go_wp2;go_quiet (fail)
         go_wp2;go_quiet ((go_at_call 256;exact(HM _).mono (fun e j D=>⟨D.1,_,D.2⟩)))
         go_wp2;go_region_held3 (fun w'=>w'.cell? ⟨H,0,U⟩=M (Z N d m)∧w'.cell? ⟨L,0,U⟩=M (Q (M ⟨g,0,U⟩))) (go_keep) (first | (go_at_call 257;refine(HU _ ?_).mono ?_;(exact⟨rfl,rfl,rfl,aM _,fun _ _=>rfl⟩);rintro e j ⟨rfl,t⟩;have a:Below w.heap.size w j:=then_ (kX w _) t;obtain⟨c2,c3⟩:=HC j a;have B:=H9 a;clear t a))
         all_goals
          obtain⟨x,g1,g2,g3,g4⟩:=z.o j B.o;have HG:=g2;have HKp:=H9 g3;have Oo:=H9 g4
          have HSr:=HBS j B.o;go_wp2;go_region_law ((refine nU (by rfl) _ _ _ (by rfl) 5 i0 underlying31 Hi kY.o kT.o kZ.o (by rfl) (by rfl) HG rfl HSr v (by omega) ?_;intro bo3 gZ w3 hO3 nL;have rZ:=H9 hO3;have HT3:=H9 nL;obtain⟨v0,f0⟩:=HKp.o w3 nL;clear hO3 nL))
          all_goals
           go_wp2;go_ret;exact Oo.o _ _ _ rZ.o HT3.o
   . have z:∀n,Did S 124 w g (Sp.xO s f b i s.l[i]) (Y (I J (17:Nat))) (w.drewN n):=fun n=>Did.none_ (c:=17) (r:=Sp.xO s f b i s.l[i]) h (kX w n) (by unfold Sp.xO;rw[if_neg e1,if_pos T]);generalize s.l[i]=u at *;go_enter func255,ntmps255;go_wp2;go_quiet (fail)
     go_wp2;go_ret;exact z _
 . have z:Did S 124 w g (Sp.xO s f b i s.l[i]) (Y (I J (19:Nat))) w:=Did.none_ h (eY _ _) (by unfold Sp.xO;rw[if_pos hs]);generalize s.l[i]=u at *;go_enter func255,ntmps255;go_wp2;go_ret;exact z
theorem kS (w:X)(v:Value)(t k:Nat)(a:w.heap.size=k):(w.alloc (K #[v] t)).cell? ⟨k,0,U⟩=M v:=by subst a;exact World.cell?_alloc_mark w _ _ _ 0
theorem jE (w:X)(o:Obj)(k:Nat)(v:Value)(h:w.cell? ⟨k,0,U⟩=M v):(w.alloc o).cell? ⟨k,0,U⟩=M v:=by
 rw[((eY w.heap.size w).alloc (aM _) o).cell (p:=⟨k,0,U⟩) (fH w _ h)];exact h
theorem Lc (s:Sp.St)(S:Nat->Prop)(g:Nat)(a:Int)(w:X)(h:gL w S g s)(ok:Sp.Ok s):
 Calls prog 154 #[Q (M ⟨g,0,U⟩),I J a] w (Did S 124 w g (Sp.ends s a)):=by
 have b:=H9 (Oh s S g a w h (by have:=ok.few;omega) (Sp.MI s) (fun d i f j _ k l=>Np s S g f i d k l j));rw[<-Sp.aa3] at b;generalize Sp.ends s a=r at *;clear h ok;go_enter func154,ntmps154;go_wp2_with fail
 refine b.o.mono ?_;intro e n c;have m:=H9 c;obtain⟨rfl,_,_⟩:=c;go_wp2;go_ret;exact m.o
theorem Ei (s:Sp.St)(S:Nat->Prop)(g:Nat)(a:Int)(w:X)(h:gL w S g s)(ok:Sp.Ok s):
 Calls prog 149 #[Q (M ⟨g,0,U⟩),I J a] w (Did S 124 w g (Sp.begins s a)):=by
 have b:=H9 (Oi s S g a w h (by have:=ok.few;omega) (Sp.Ht s) (fun d i f j _ k l=>Nu s S g f i d k l j));rw[<-Sp.U1] at b;generalize Sp.begins s a=r at *;clear h ok;go_enter func149,ntmps149;go_wp2_with fail
 refine b.o.mono ?_;intro e n c;have m:=H9 c;obtain⟨rfl,_,_⟩:=c;go_wp2;go_ret;exact m.o
theorem zD (s:Sp.St)(S:Nat->Prop)(g:Nat)(c a:Int)(w:X)(h:gL w S g s)(ok:Sp.Ok s):
 Calls prog 214 #[Q (M ⟨g,0,U⟩),I J c,I J a] w (Did S 124 w g (Sp.declare s c a)):=by
 have d:Below w.heap.size w (w.alloc (K #[I J a] 3)):=(eY _ _).alloc (aM _) _;have f:=Oj s S g c (w.alloc (K #[I J a] 3)) (h.stay d) (by have:=ok.few;omega) w.heap.size (Sp.iV s a) (fun m i n j o q t=>Nv s S g n i w.heap.size a m q t j (ok.all _ (aC j)).Ay (by rw[o.cell (p:=⟨w.heap.size,0,U⟩) (by simp)];exact World.cell?_alloc_mark w _ _ _ 0));rw[<-Sp.QY] at f;generalize Sp.declare s c a=r at *;have v:∀(k:Fn) (first b:Array Value) (w:X),(Instr.makeFunc k first b).run prog w=.ok (.func k first b) w:=fun _ _ _ _=>rfl;go_enter func214,ntmps214;go_wp2_with fail
 refine f.mono ?_;intro e x l;have u:=Did.from_ d l;obtain⟨rfl,_,_⟩:=l;go_wp2;go_ret;exact u
theorem Bw (s:Sp.St)(S:Nat->Prop)(g:Nat)(d a:Int)(bo:ak)(n cap:Nat)(b:av)(w:X)(h:gL w S g s)(ok:Sp.Ok s)(u:gN w bo cap b)(v:b.length=n)(x:n<=1000000):
 Calls prog 213 #[Q (M ⟨g,0,U⟩),I J d,I J a,Z bo n cap] w (Did S 124 w g (Sp.append s d a b)):=by
 have j:Below w.heap.size w (w.alloc (K #[Q (M ⟨g,0,U⟩)] 42)):=(eY _ _).alloc (aM _) _;have k:Below w.heap.size w (((w.alloc (K #[Q (M ⟨g,0,U⟩)] 42)).alloc (K #[I J a] 3)).alloc (K #[Z bo n cap] 31)):=(j.alloc (by simp) _).alloc (by simp;omega) _;have l:∀W,Below (((w.alloc (K #[Q (M ⟨g,0,U⟩)] 42)).alloc (K #[I J a] 3)).alloc (K #[Z bo n cap] 31)).heap.size (((w.alloc (K #[Q (M ⟨g,0,U⟩)] 42)).alloc (K #[I J a] 3)).alloc (K #[Z bo n cap] 31)) W->W.cell? ⟨w.heap.size+1,0,U⟩=M (I J a)∧W.cell? ⟨w.heap.size+2,0,U⟩=M (Z bo n cap)∧W.cell? ⟨w.heap.size,0,U⟩=M (Q (M ⟨g,0,U⟩)):=fun W m=>by
  refine⟨?_,?_,?_⟩
  . rw[m.cell (p:=⟨w.heap.size+1,0,U⟩) (by simp)];exact jE _ _ _ _ (kS _ _ _ _ (by simp))
  . rw[m.cell (p:=⟨w.heap.size+2,0,U⟩) (by simp)];exact kS _ _ _ _ (by simp)
  . rw[m.cell (p:=⟨w.heap.size,0,U⟩) (by simp;omega)];exact jE _ _ _ _ (jE _ _ _ _ (kS _ _ _ _ rfl))
 have o:=Ol s S g d _ (h.stay k) (by have:=ok.few;omega) (w.heap.size+1) (w.heap.size+2) w.heap.size (Sp.xO s a b) (fun f i y z c B C=>Om s S g y i (w.heap.size+1) (w.heap.size+2) w.heap.size a bo cap n b f B C z ok (l f c).1 (l f c).2.1 (l f c).2.2 ((u.stay k).stay c) v x);rw[<-Sp.CP] at o;generalize Sp.append s d a b=r at *;have G:∀(q:Fn) (first cap:Array Value) (w:X),(Instr.makeFunc q first cap).run prog w=.ok (.func q first cap) w:=fun _ _ _ _=>rfl;go_enter func213,ntmps213;go_wp2_with fail
 refine o.mono ?_;intro e H t;have D:=Did.from_ k t;obtain⟨rfl,_,_⟩:=t;go_wp2;go_ret;exact D
theorem IZ:(prog.info? 92).map (fun i=>(i.zero,i.size,i.bytes))=M (M (.agg #[I J 0,I J 0,.string ⟨#[]⟩,Z U 0 0,I J 0]),5,64):=by kernel_rfl
theorem Zr (w:X):(zeroValue 92).run prog w=.ok (.agg #[I J 0,I J 0,.string ⟨#[]⟩,Z U 0 0,I J 0]) w:=by kernel_rfl
def upZ:List Value:=[I J 0,I J 0,.string ⟨#[]⟩,Z U 0 0,I J 0]
theorem Le (S:Nat->Prop)(l:List Sp.Up)(b cap n i j:Nat)(w:X)(h:pK w S 92 5 (M ⟨b,0,U⟩) cap l)(hn:l.length=n)(hN:n<=1000)(hi:i<n)(hj:j=i+1):
 Calls prog 259 #[Z (M ⟨b,0,U⟩) n cap,I J i,I J j] w fun e w'=>e=Y (Z (M ⟨b,0,U⟩) (n-1) cap)∧pK w' (gB S w) 92 5 (M ⟨b,0,U⟩) cap (l.eraseIdx i)∧Turns (fun k=>k=b) w w':=by
 subst hn;obtain⟨m,UH,D,hK⟩:=h.drop i hi;have hcap:=h.cap_;obtain⟨i0,v,G,y,H⟩:=info_parts IZ;have hmax:cap<=9223372036854775807:=by
  rcases D.2 with ⟨e,_⟩ | ⟨g',cap',cur,e,hg,hh,hn,B,hs,r⟩
  . simp at e
  . injection e with _ _ e;subst e;exact B
 have s:=D.stay (gy _ _);have q:(sO m).length=l.length*5:=by rw[qJ,UH]
 obtain⟨a,c⟩:∃a,a=(sO m).drop ((i+1)*5):=⟨_,rfl⟩;have p:a.length=(l.length-j)*5:=by rw[c,bT,q];omega
 obtain⟨C,hA,z⟩:∃C:Addr,(if cap=j then M (⟨b,0,U⟩:Addr) else M ⟨b,j*5,U⟩)=M C∧Hid (∀t u,a[t]? = M u->w.drew.cell? (C.add t)=M u):=by
  by_cases B:cap=j
  . refine⟨⟨b,0,U⟩,by simp[B],fun t u d=>?_⟩;have h0:a.length=0:=by rw[p];omega
    rw[List.length_eq_zero_iff.1 h0] at d;simp at d
  . refine⟨⟨b,j*5,U⟩,by simp[B],fun t u d=>?_⟩;have r:t<(l.length-j)*5:=by
     have:=(aQ.1 d).1;rwa[p] at this
    rw[c,List.getElem?_drop] at d;rw[fQ,fD s (j*5+t) (by omega),<-d,hj]
 have s2:∀u∈a,u.oneCell'=true:=fun u d=>by
  rw[c] at d;have d:=List.mem_of_mem_drop d;obtain⟨x,_,hx⟩:=List.mem_flatMap.1 d;exact Qh _ _ u hx
 have s3:Hid (∀t,t<a.length->(w.drew.cell? ⟨b,0+i*5+t,U⟩).isSome=true∧w.drew.frozen? ⟨b,0+i*5+t,U⟩=false):=fun t r=>by
  rw[p] at r;rw[fD s (0+i*5+t) (by omega),dz (by omega)];exact⟨rfl,fE s _⟩
 obtain⟨g,f⟩:∃g,g=w.drew.setCells b (0+i*5) a:=⟨_,rfl⟩;have L:gH g 0 92 5 (M ⟨b,0,U⟩) cap l.length (Bd (sO m) (0+i*5) a):=by rw[f];exact s.lays a (0+i*5)
 have N:i+(l.length-j)=l.length-1:=by omega
 have hcl:∀T,(Builtin.clear_ #[40] T #[Z (M ⟨b,(i+(l.length-j))*5,U⟩) (l.length-(i+(l.length-j))) (cap-(i+(l.length-j)))]).run prog g=.ok (.tuple #[]) (g.setCells b ((i+(l.length-j))*5) upZ):=fun T=>by
  rw[show l.length-(i+(l.length-j))=1 by omega];refine E5 g _ _ T _ underlying40 Zr (by decide) b ((i+(l.length-j))*5) _ (fun t r=>?_) (fun t r=>fE L _);have r:t<5:=r;rw[fD L _ (by omega),dz (by rw[Iy];omega)];rfl
 have HE:Hid (pK (g.setCells b ((i+(l.length-j))*5) upZ) (gB S w) 92 5 (M ⟨b,0,U⟩) cap (l.eraseIdx i)∧Turns (fun k=>k=b) w (g.setCells b ((i+(l.length-j))*5) upZ)):=by
  have hT:Turns (fun k=>k=b) w (g.setCells b ((i+(l.length-j))*5) upZ):=by
   rw[f];exact((Turns.of_below (gy _ w)).trans (lY b a _ w.drew) (fun _ e _=>e)).trans (lY b upZ _ _) (fun _ e _=>e)
  have W:=s.gone i hi upZ;refine⟨(hK _ (M ⟨b,0,U⟩) cap ?_ (hT.mono (fun k e=>by subst e;rfl)) (fun k e=>Or.inl e)).1,hT⟩;rw[RS,f,c,N,aZ];have e1:sO (m.take i)=(sO m).take (i*5):=by
   conv=>rhs;rw[<-bV i m,uh]
   rw[List.take_left' (by rw[qJ,bW];omega)]
  have e2:sO (m.drop (i+1))=(sO m).drop ((i+1)*5):=by
   conv=>rhs;rw[<-bV (i+1) m,uh]
   rw[List.drop_left' (by rw[qJ,bW];omega)]
  rw[e1,e2];exact W
 have HW:Hid (g=w.drew.setCells b (0+i*5) a):=f;have HQ:=H9 N;have hic:i<=cap:=by omega
 have hjc:j<=cap:=by omega
 have hjl:j<=l.length:=by omega
 have hne:¬i=j:=by omega
 have hlt:i<j:=by omega
 have hnc:¬cap=i+(l.length-j):=by omega
 have Hi:=H9 v;have kT:=H9 y
 clear f L s D hK h c  q UH v G y H hj N;generalize l.length=n at *;go_enter func259,ntmps259;go_wp2_with fail
 go_region_law (refine step_append_room rfl (.tmp 22) (.tmp 25) 40 rfl 92 i0 5 underlying40 Hi.o kT.o b 0 i cap (by simp[Act.eval,Act.put]) C (n-j) (cap-j) a (by simp[Act.eval,Act.put]) p z.out s2 (by omega) s3.out ?_;rw[<-HW.o])
 go_wp2;go_ret;exact⟨by rw[<-HQ.o];rfl,HE.o⟩
theorem GH (s:Sp.St)(S:Nat->Prop)(g:Nat)(c:Int)(w:X)(h:gL w S g s)(ok:Sp.Ok s):
 Calls prog 215 #[Q (M ⟨g,0,U⟩),I J c] w (Did S 124 w g (Sp.drop s c)):=by
 have hN:=ok.few;rw[Sp.aa2];have u:=oD s S g c w h (by omega);cases o:Sp.place s.l c with
 | none =>
   rw[Sp.tJ o] at u;have D:∀W,Below w.heap.size w W->Did S 124 w g (Sp.kH s c (Sp.U0 s)) (Y (I J (10:Nat))) W:=fun W d=>Did.none_ h d (Sp.oh o);go_enter func215,ntmps215;go_wp2_with fail
   refine u.mono ?_;rintro e p ⟨rfl,d⟩;go_wp2;go_ret;exact D _ d
 | some i =>
   rw[Sp.tK o] at u;have v:=Sp.lg o;have q:Sp.kH s c (Sp.U0 s)=(⟨s.l.eraseIdx i,s.last⟩,0):=Sp.om o;go_enter func215,ntmps215;go_wp2_with fail
   refine u.mono ?_;rintro e p ⟨rfl,d⟩;obtain⟨ao,a,c0,c1,f0,f1,y,z,B⟩:=(h.stay d).cells;obtain⟨m,rfl,t,_⟩:=B.at_.row i v;have G:Calls prog 259 #[Z (M ⟨m,0,U⟩) s.l.length a,I J i,I J ((i:Int)+1)] p _:=Le _ s.l m a s.l.length i (i+1) p B rfl (by omega) v rfl;have H:∀b,pK b (gB (fun k=>S k∧k≠g) p) 92 5 (M ⟨m,0,U⟩) a (s.l.eraseIdx i)->Turns (fun k=>k=m) p b->b.cell? ⟨g,0,U⟩=M (Z (M ⟨m,0,U⟩) s.l.length a)∧b.frozen? ⟨g,0,U⟩=false∧Did S 124 w g (Sp.kH s c (Sp.U0 s)) (Y (I J 0)) (b.setCell ⟨g,0,U⟩ (Z (M ⟨m,0,U⟩) (s.l.length-1) a)):=fun b f C=>by
    have j:=C.row y (fun e=>t.2 e.symm);have L:=(aL.1 y).1;have N:=d.size;obtain⟨T,x⟩:=ny.lay (S:=gB S w) j (Or.inl z) (n:=s.l.length-1) (f.mono (fun k _ e=>by
     rcases e with e | e
     . exact⟨Or.inl e.1,e.2⟩
     . exact⟨Or.inr (by omega),by omega⟩)) (by rw[List.length_eraseIdx_of_lt v])
    refine⟨eZ b g 0 _ _ _ j,fq b g 0 _ _ j,⟨by rw[q];rfl,by rw[q];exact T,?_⟩⟩;exact((Turns.of_below d).trans (C.mono (fun k e=>by subst e;exact t.1)) (fun _ e _=>e)).trans (x.mono (fun k e=>by subst e;exact z)) (fun _ e _=>e)
   have hw:IntKind.i64.wrap ((i:Int)+1)=(i:Int)+1:=ko (by omega) (by omega);have hi':(i:Int)<s.l.length:=by omega
   generalize Sp.kH s c (Sp.U0 s)=r at *;go_wp2_with fail
   refine G.mono ?_;rintro e b ⟨rfl,f,jN⟩;obtain⟨c0',f0',hd⟩:=H b f jN;go_wp2;go_ret;exact hd
end Go.Proofs.YthhklgjjnaeaoaaGreatDoor