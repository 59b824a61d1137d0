/- Small texts, one behind the other: SqE, SqF, SqG. -/
import Derived.Test.YtjmndjmhjleabaaGreatDoorPk37
import Derived.Deep.RegionHeld3
import Derived.Deep.RegionLaw
open Go.Value renaming int->I,slice->Z,pointer->Q
open Go.IntKind renaming i64->J
open Go.Obj renaming cells->K
open Go.Ending renaming returned->Y
open Option renaming none->U,some->M
open Go renaming World->X
set_option maxHeartbeats 2000000
set_option maxRecDepth 100000
open Go.Proofs.Tryz
namespace Go.Proofs.YtjmndjmhjleabaaGreatDoor
open Go.RowKit
theorem Did.grow {w:X}{S:Nat->Prop}{y g b i:Nat}{s:Sp.St}(h:oh w S y 101 5 g s)(H:om w g b s.l.length)(L:i<s.l.length):∃q:yP,w.cell? ⟨b,i*5+3,U⟩=M (Z q.bo s.l[i].bytes.length q.gJ)∧gY w (fun _=>True) 5 q.bo q.gJ s.l[i].bytes ∧
 (∀c,Turns (fun k=>jM s.l[i].bytes q.bo=M k) w c->c.cell? ⟨b,i*5+3,U⟩=M (Z q.bo s.l[i].bytes.length q.gJ)∧c.frozen? ⟨b,i*5+3,U⟩=false) ∧
 ∀c j m bs n (r:Sp.St×Nat),gY c (fun k=>jM s.l[i].bytes q.bo=M k∨w.heap.size<=k) 5 j m bs->Turns (fun k=>jM s.l[i].bytes q.bo=M k) w c->n=bs.length->r=(⟨s.l.set i { s.l[i] with bytes:=bs },s.last⟩,0)->Did S y w g r (Y (I J 0)) (c.setCell ⟨b,i*5+3,U⟩ (Z j n m)):=by
 obtain⟨ao,p,N,c1,f0,f1,z,O,P⟩:=h.cells;obtain⟨B,V6,o⟩:=H;rw[N] at o;injection o with o;injection o with ha _ _;subst ha;obtain⟨g2,q,d,T,f,h0,h1,h2,C,h4,W,t,hK⟩:=P.lies i L;injection d with d;injection d with d;subst d;have u:jM s.l[i].bytes q.bo≠M b:=fun e=>(t.blk e).1.2 rfl;have UJ:jM s.l[i].bytes q.bo≠M g:=fun e=>(t.blk e).1.1.2 rfl;refine⟨q,C,t.mono (fun _ _ _=>trivial),fun c v=>?_,fun c j m bs n r hB v hn hr=>?_⟩
 . have D:=v.block b f u;exact⟨by rw[gF (a:=⟨b,i*5+3,U⟩) D];exact C,by rw[gG (a:=⟨b,i*5+3,U⟩) D];exact W _⟩
 . subst hr;obtain⟨x,G⟩:=hK c j m bs n hB v hn;have hgl:g<w.heap.size:=(aK.1 z).1;refine⟨rfl,⟨M ⟨b,0,U⟩,p,?_,Or.inl O,?_⟩,G.mono (fun k e=>e.1)⟩
   . have:=G.row z (fun e=>e.2 rfl);simpa using this
   . refine x.mono (fun k _ e=>?_);rcases e with e | e
     . exact⟨Or.inl e.1,e.2⟩
     . exact⟨Or.inr e,by omega⟩
theorem OH (s:Sp.St)(S:Nat->Prop)(g H i b1 P T:Nat)(j:Int)(AV:aj)(m d:Nat)(b:au)(w:X)(h:iU w S g s)(L:om w g H s.l.length)(hi:i<s.l.length)(ok:Sp.Ok s)
 (d1:w.cell? ⟨b1,0,U⟩=M (I J j)) (d2:w.cell? ⟨P,0,U⟩=M (Z AV d m)) (d3:w.cell? ⟨T,0,U⟩=M (Q (M ⟨g,0,U⟩))) (hb:iG w AV m b) (t:b.length=d) (hN:d<=1000000) :
 Calls prog 215 #[Q (M ⟨H,i*5,U⟩),Q (M ⟨b1,0,U⟩),Q (M ⟨P,0,U⟩),Q (M ⟨T,0,U⟩)] w (Did S 104 w g (Sp.zu s j b i s.l[i])):=by
 obtain⟨q,h0,h1,h2,h3,h4,hf,N⟩:=om.up h L hi;have hk:=ok.all _ (aB hi);have k0:=hk.GK;have k1:=hk.Ke;have k2:=hk.long;have k3:=hk.fits
 have hq:=ok.quota;have nN:=ok.few
 clear hk;by_cases O:s.l[i].sent=0
 . have D:¬s.l[i].sent≠0:=by simpa using O
   rw[O] at h4;by_cases ho:j=s.l[i].bytes.length
   . have e2:¬j≠s.l[i].bytes.length:=by simpa using ho
     have HM:=H9 (fun n=>Wq H (i*5) s.l[i].size (w.drewN n) (by rw[World.cell?_drewN];exact h1));have HU:=H9 (fun W (y:Below w.heap.size w W)=>R5 s S g W (h.stay y) (by omega) (by omega));by_cases hl:(if s.l[i].size=-1 then 2000 else s.l[i].size)<(s.l[i].bytes.length:Int)+d
     . have z:Hid (∀W,Below w.heap.size w W->Did S 104 w g (Sp.zu s j b i s.l[i]) (Y (I J (4:Nat))) W):=fun W y=>Did.none_ h y (by
        unfold Sp.zu;rw[if_neg D,if_neg e2,if_pos];rw[t];split at hl <;> omega)
       clear h L hf h0 h2 N D e2 O k3;generalize s.l[i]=u at *;generalize (if u.size=-1 then 2000 else u.size)=mo at *;have hw1:IntKind.i64.wrap ((u.bytes.length:Int)+d)=(u.bytes.length:Int)+d:=lY (by omega) (by omega);subst ho;go_enter func215,ntmps215;go_wp2;go_quiet (fail)
       go_wp2;go_quiet ((go_at_call 216;exact(HM.o _).mono (fun e f G=>⟨G.1,_,G.2⟩)))
       go_wp2;go_ret;exact z.o _ ⟨rfl,rfl,rfl,aL _,fun _ _=>rfl⟩
     . have e3:¬(2000<s.l[i].bytes.length+b.length∨(0<=s.l[i].size∧s.l[i].size<(s.l[i].bytes.length:Int)+b.length)):=by
        rw[t];split at hl <;> omega
       have HC:Hid (∀W,Below w.heap.size w W->W.cell? ⟨P,0,U⟩=M (Z AV d m)∧W.cell? ⟨T,0,U⟩=M (Q (M ⟨g,0,U⟩)) ):=fun W y=>⟨by rw[y.cell (p:=⟨P,0,U⟩) (fZ w _ d2)];exact d2,by rw[y.cell (p:=⟨T,0,U⟩) (fZ w _ d3)];exact d3⟩;have n3:¬((s.l[i].bytes.length:Int)+d > if s.l[i].size=-1 then 2000 else s.l[i].size):=by omega
       by_cases hu:6000<Sp.used s.l+d
       . have z:Hid (∀W,Below w.heap.size w W->Did S 104 w g (Sp.zu s j b i s.l[i]) (Y (I J (16:Nat))) W):=fun W y=>Did.none_ h y (by
          unfold Sp.zu;rw[if_neg D,if_neg e2,if_neg e3,if_pos (by rw[t];exact hu)])
         clear h L hf h0 h2 N D e2 e3 O k3 hl;generalize s.l[i]=u at *;generalize (if u.size=-1 then 2000 else u.size)=mo at *;have hw1:IntKind.i64.wrap ((u.bytes.length:Int)+d)=(u.bytes.length:Int)+d:=lY (by omega) (by omega);have hw2:IntKind.i64.wrap ((Sp.used s.l:Int)+d)=(Sp.used s.l:Int)+d:=lY (by omega) (by omega);have tu:decide ((Sp.used s.l:Int)+d > 6000)=true:=by rw[bQ];omega
         generalize Sp.used s.l=us at *;subst ho;go_enter func215,ntmps215;go_wp2;go_quiet (fail)
         go_wp2;go_quiet ((go_at_call 216;exact(HM.o _).mono (fun e f G=>⟨G.1,_,G.2⟩)))
         go_wp2;go_region_held3 (fun w'=>w'.cell? ⟨P,0,U⟩=M (Z AV d m)∧w'.cell? ⟨T,0,U⟩=M (Q (M ⟨g,0,U⟩))) (go_keep) (first | (go_at_call 217;refine(HU.o _ ?_).mono ?_;(exact⟨rfl,rfl,rfl,aL _,fun _ _=>rfl⟩);rintro e f ⟨rfl,v⟩;have a:Below w.heap.size w f:=then_ (lM w _) v;obtain⟨c2,c3⟩:=HC.o f a;have B:=H9 a;clear v a))
         all_goals
          go_wp2;go_ret;exact z.o _ B.o
       . have z:Hid (∀f,Below w.heap.size w f->∃x:yP,f.cell? ⟨H,i*5+3,U⟩=M (Z x.bo s.l[i].bytes.length x.gJ)∧gY f.drew (fun _=>True) 5 x.bo x.gJ s.l[i].bytes ∧
          (∀C,Turns (fun k=>jM s.l[i].bytes x.bo=M k) f.drew C->C.cell? ⟨H,i*5+3,U⟩=M (Z x.bo s.l[i].bytes.length x.gJ)∧C.frozen? ⟨H,i*5+3,U⟩=false) ∧
          ∀C oF kC,gY C (fun k=>jM s.l[i].bytes x.bo=M k∨f.drew.heap.size<=k) 5 oF kC (s.l[i].bytes++b)->Turns (fun k=>jM s.l[i].bytes x.bo=M k) f.drew C->Did S 104 w g (Sp.zu s j b i s.l[i]) (Y (I J 0)) (C.setCell ⟨H,i*5+3,U⟩ (Z oF (s.l[i].bytes.length+d) kC))):=fun f v=>by
          have a:Below w.heap.size w f.drew:=v.trans (gP _ _);obtain⟨x,g1,g2,g3,g4⟩:=Did.grow (h.stay a) (L.stay a) hi;refine⟨x,g1,g2,g3,fun C oF kC N hT=>Did.from_ a (g4 C oF kC _ _ _ N hT (by rw[aV,t]) ?_)⟩;unfold Sp.zu;rw[if_neg D,if_neg e2,if_neg e3,if_neg (by rw[t];exact hu)]
         have HBS:=H9 (fun f (y:Below w.heap.size w f)=>iG.stay (iG.stay hb y) (gP _ f));have MX:=H9 t;obtain⟨i0,hi0,hz0,hz1,hz2⟩:=info_parts jN;have Hi:=H9 hi0;have kJ:=H9 hz0;have kG:=H9 hz1;have kK:=H9 hz2
         clear h L hf h0 h2 N D e2 e3 O k3 hl hb t hi0 hz0 hz1 hz2;generalize s.l[i]=u at *;generalize (if u.size=-1 then 2000 else u.size)=mo at *;have hw1:IntKind.i64.wrap ((u.bytes.length:Int)+d)=(u.bytes.length:Int)+d:=lY (by omega) (by omega);have hw2:IntKind.i64.wrap ((Sp.used s.l:Int)+d)=(Sp.used s.l:Int)+d:=lY (by omega) (by omega);have tu:decide ((Sp.used s.l:Int)+d > 6000)=false:=by rw[bP];omega
         generalize Sp.used s.l=us at *;subst ho;go_enter func215,ntmps215;go_wp2;go_quiet (fail)
         go_wp2;go_quiet ((go_at_call 216;exact(HM.o _).mono (fun e f G=>⟨G.1,_,G.2⟩)))
         go_wp2;go_region_held3 (fun w'=>w'.cell? ⟨P,0,U⟩=M (Z AV d m)∧w'.cell? ⟨T,0,U⟩=M (Q (M ⟨g,0,U⟩))) (go_keep) (first | (go_at_call 217;refine(HU.o _ ?_).mono ?_;(exact⟨rfl,rfl,rfl,aL _,fun _ _=>rfl⟩);rintro e f ⟨rfl,v⟩;have a:Below w.heap.size w f:=then_ (lM w _) v;obtain⟨c2,c3⟩:=HC.o f a;have B:=H9 a;clear v a))
         all_goals
          obtain⟨x,g1,g2,g3,g4⟩:=z.o f B.o;have HG:=H9 g2;have HKp:=H9 g3;have WS:=H9 g4
          have HSr:=H9 (HBS.o f B.o);clear g2 g3 g4 z HBS h3;go_wp2;go_region_law ((refine og (by rfl) _ _ _ (by rfl) 5 i0 underlying31 Hi.o kJ.o kG.o kK.o (by rfl) (by rfl) HG.o rfl HSr.o MX.o (by omega) ?_;intro bo3 gW w3 hO3 pE;have oC:=H9 hO3;have HT3:=H9 pE;obtain⟨v0,f0⟩:=HKp.o w3 pE;clear hO3 pE))
          all_goals
           go_wp2;go_ret;exact WS.o _ _ _ oC.o HT3.o
   . have z:Hid (∀n,Did S 104 w g (Sp.zu s j b i s.l[i]) (Y (I J (17:Nat))) (w.drewN n)):=fun n=>Did.none_ (c:=17) (r:=Sp.zu s j b i s.l[i]) h (lM w n) (by unfold Sp.zu;rw[if_neg D,if_pos ho]);clear h L hf h0 h2 N D O;generalize s.l[i]=u at *;go_enter func215,ntmps215;go_wp2;go_quiet (fail)
     go_wp2;go_ret;exact z.o _
 . have z:Hid (Did S 104 w g (Sp.zu s j b i s.l[i]) (Y (I J (19:Nat))) w):=Did.none_ h (fI _ _) (by unfold Sp.zu;rw[if_pos O]);clear h L hf h0 h2 N;generalize s.l[i]=u at *;go_enter func215,ntmps215;go_wp2;go_ret;exact z.o
theorem mP (w:X)(v:Value)(t k:Nat)(a:w.heap.size=k):(w.alloc (K #[v] t)).cell? ⟨k,0,U⟩=M v:=by subst a;exact World.cell?_alloc_mark w _ _ _ 0
theorem kR (w:X)(o:Obj)(k:Nat)(v:Value)(h:w.cell? ⟨k,0,U⟩=M v):(w.alloc o).cell? ⟨k,0,U⟩=M v:=by
 rw[((fI w.heap.size w).alloc (aL _) o).cell (p:=⟨k,0,U⟩) (fZ w _ h)];exact h
theorem JB (s:Sp.St)(S:Nat->Prop)(g:Nat)(c a:Int)(w:X)(h:iU w S g s)(ok:Sp.Ok s):
 Calls prog 173 #[Q (M ⟨g,0,U⟩),I J c,I J a] w (Did S 104 w g (Sp.declare s c a)):=by
 have d:Below w.heap.size w (w.alloc (K #[I J a] 3)):=(fI _ _).alloc (aL _) _;have f:=H9 (OE s S g c (w.alloc (K #[I J a] 3)) (h.stay d) (by have:=ok.few;omega) w.heap.size (Sp.jG s a) (fun m i n j q t u=>NY s S g n i w.heap.size a m t u j (ok.all _ (aB j)).GK (by rw[q.cell (p:=⟨w.heap.size,0,U⟩) (by simp)];exact World.cell?_alloc_mark w _ _ _ 0)));rw[<-Sp.Ri] at f;generalize Sp.declare s c a=r at *;have v:=H9 d;have y:∀(k:Fn) (first b:Array Value) (w:X),(Instr.makeFunc k first b).run prog w=.ok (.func k first b) w:=fun _ _ _ _=>rfl;clear h ok d;go_enter func173,ntmps173;go_wp2_with fail
 refine f.o.mono ?_;intro e z l;have x:=H9 (Did.from_ v.o l);obtain⟨rfl,_,_⟩:=l;go_wp2;go_ret;exact x.o
theorem LZ (s:Sp.St)(S:Nat->Prop)(g:Nat)(f a:Int)(bo:aj)(n cap:Nat)(b:au)(w:X)(h:iU w S g s)(ok:Sp.Ok s)(q:iG w bo cap b)(t:b.length=n)(y:n<=1000000):
 Calls prog 171 #[Q (M ⟨g,0,U⟩),I J f,I J a,Z bo n cap] w (Did S 104 w g (Sp.append s f a b)):=by
 have d:Below w.heap.size w (w.alloc (K #[Q (M ⟨g,0,U⟩)] 42)):=(fI _ _).alloc (aL _) _;have j:Below w.heap.size w (((w.alloc (K #[Q (M ⟨g,0,U⟩)] 42)).alloc (K #[I J a] 3)).alloc (K #[Z bo n cap] 31)):=(d.alloc (by simp) _).alloc (by simp;omega) _;have k:∀W,Below (((w.alloc (K #[Q (M ⟨g,0,U⟩)] 42)).alloc (K #[I J a] 3)).alloc (K #[Z bo n cap] 31)).heap.size (((w.alloc (K #[Q (M ⟨g,0,U⟩)] 42)).alloc (K #[I J a] 3)).alloc (K #[Z bo n cap] 31)) W->W.cell? ⟨w.heap.size+1,0,U⟩=M (I J a)∧W.cell? ⟨w.heap.size+2,0,U⟩=M (Z bo n cap)∧W.cell? ⟨w.heap.size,0,U⟩=M (Q (M ⟨g,0,U⟩)):=fun W m=>by
  refine⟨?_,?_,?_⟩
  . rw[m.cell (p:=⟨w.heap.size+1,0,U⟩) (by simp)];exact kR _ _ _ _ (mP _ _ _ _ (by simp))
  . rw[m.cell (p:=⟨w.heap.size+2,0,U⟩) (by simp)];exact mP _ _ _ _ (by simp)
  . rw[m.cell (p:=⟨w.heap.size,0,U⟩) (by simp;omega)];exact kR _ _ _ _ (kR _ _ _ _ (mP _ _ _ _ rfl))
 have u:=H9 (OG s S g f _ (h.stay j) (by have:=ok.few;omega) (w.heap.size+1) (w.heap.size+2) w.heap.size (Sp.zu s a b) (fun l i z B c C D=>OH s S g z i (w.heap.size+1) (w.heap.size+2) w.heap.size a bo cap n b l C D B ok (k l c).1 (k l c).2.1 (k l c).2.2 ((q.stay j).stay c) t y));rw[<-Sp.Vd] at u;generalize Sp.append s f a b=r at *;have G:=H9 j;have L:∀(v:Fn) (first cap:Array Value) (w:X),(Instr.makeFunc v first cap).run prog w=.ok (.func v first cap) w:=fun _ _ _ _=>rfl;clear h ok j d k q t;go_enter func171,ntmps171;go_wp2_with fail
 refine u.o.mono ?_;intro e N x;have H:=H9 (Did.from_ G.o x);obtain⟨rfl,_,_⟩:=x;go_wp2;go_ret;exact H.o
theorem JC:(prog.info? 101).map (fun i=>(i.zero,i.size,i.bytes))=M (M (.agg #[I J 0,I J 0,.string ⟨#[]⟩,Z U 0 0,I J 0]),5,64):=by kernel_rfl
theorem ZC (w:X):(zeroValue 101).run prog w=.ok (.agg #[I J 0,I J 0,.string ⟨#[]⟩,Z U 0 0,I J 0]) w:=by kernel_rfl
def upZ:List Value:=[I J 0,I J 0,.string ⟨#[]⟩,Z U 0 0,I J 0]
theorem L6 (S:Nat->Prop)(l:List Sp.Up)(b cap n i j:Nat)(w:X)(h:qE w S 101 5 (M ⟨b,0,U⟩) cap l)(T:l.length=n)(hN:n<=1000)(W:i<n)(hj:j=i+1):
 Calls prog 219 #[Z (M ⟨b,0,U⟩) n cap,I J i,I J j] w fun e w'=>e=Y (Z (M ⟨b,0,U⟩) (n-1) cap)∧qE w' (gM S w) 101 5 (M ⟨b,0,U⟩) cap (l.eraseIdx i)∧Turns (fun k=>k=b) w w':=by
 subst T;obtain⟨m,UQ,D,hK⟩:=h.drop i W;have hcap:=h.cap_;obtain⟨i0,v,G,y,H⟩:=info_parts JC;have hmax:cap<=9223372036854775807:=by
  rcases D.2 with ⟨e,_⟩ | ⟨g',cap',cur,e,hg,hh,T,B,hs,r⟩
  . simp at e
  . injection e with _ _ e;subst e;exact B
 have s:gU w.drew 0 101 5 (M ⟨b,0,U⟩) cap l.length (tL m):=D.stay (gP _ _);have q:(tL m).length=l.length*5:=by rw[rR,UQ]
 obtain⟨a,c⟩:∃a,a=(tL m).drop ((i+1)*5):=⟨_,rfl⟩;have d:a.length=(l.length-j)*5:=by rw[c,bU,q];omega
 obtain⟨C,hA,z⟩:∃C:Addr,(if cap=j then M (⟨b,0,U⟩:Addr) else M ⟨b,j*5,U⟩)=M C∧Hid (∀t u,a[t]? = M u->w.drew.cell? (C.add t)=M u):=by
  by_cases B:cap=j
  . refine⟨⟨b,0,U⟩,by simp[B],fun t u f=>?_⟩;have h0:a.length=0:=by rw[d];omega
    rw[dJ.1 h0] at f;simp at f
  . refine⟨⟨b,j*5,U⟩,by simp[B],fun t u f=>?_⟩;have r:t<(l.length-j)*5:=by
     have:=(aP.1 f).1;rwa[d] at this
    rw[c,List.getElem?_drop] at f;rw[gH,fQ s (j*5+t) (by omega),<-f,hj]
 have s1:=H9 d;have s2:Hid (∀u∈a,u.oneCell'=true):=fun u f=>by
  rw[c] at f;have f:=List.mem_of_mem_drop f;obtain⟨x,_,hx⟩:=List.mem_flatMap.1 f;exact Qr _ _ u hx
 have s3:Hid (∀t,t<a.length->(w.drew.cell? ⟨b,0+i*5+t,U⟩).isSome=true∧w.drew.frozen? ⟨b,0+i*5+t,U⟩=false):=fun t r=>by
  rw[d] at r;rw[fQ s (0+i*5+t) (by omega),dB (by omega)];exact⟨rfl,fT s _⟩
 obtain⟨p,g⟩:∃p,p=w.drew.setCells b (0+i*5) a:=⟨_,rfl⟩;have L:gU p 0 101 5 (M ⟨b,0,U⟩) cap l.length (zL (tL m) (0+i*5) a):=by rw[g];exact s.lays a (0+i*5)
 have N:i+(l.length-j)=l.length-1:=by omega
 have hcl:∀O,(Builtin.clear_ #[40] O #[Z (M ⟨b,(i+(l.length-j))*5,U⟩) (l.length-(i+(l.length-j))) (cap-(i+(l.length-j)))]).run prog p=.ok (.tuple #[]) (p.setCells b ((i+(l.length-j))*5) upZ):=fun O=>by
  rw[show l.length-(i+(l.length-j))=1 by omega];refine FW p _ _ O _ underlying40 ZC (by decide) b ((i+(l.length-j))*5) _ (fun t r=>?_) (fun t r=>fT L _);have r:t<5:=r;rw[fQ L _ (by omega),dB (by rw[zM];omega)];rfl
 have HE:Hid (qE (p.setCells b ((i+(l.length-j))*5) upZ) (gM S w) 101 5 (M ⟨b,0,U⟩) cap (l.eraseIdx i)∧Turns (fun k=>k=b) w (p.setCells b ((i+(l.length-j))*5) upZ)):=by
  have hT:Turns (fun k=>k=b) w (p.setCells b ((i+(l.length-j))*5) upZ):=by
   rw[g];exact((Turns.of_below (gP _ w)).trans (mK b a _ w.drew) (fun _ e _=>e)).trans (mK b upZ _ _) (fun _ e _=>e)
  have P:=s.gone i W upZ;refine⟨(hK _ (M ⟨b,0,U⟩) cap ?_ (hT.mono (fun k e=>by subst e;rfl)) (fun k e=>Or.inl e)).1,hT⟩;rw[RZ,g,c,N,aZ];have e1:tL (m.take i)=(tL m).take (i*5):=by
   conv=>rhs;rw[<-bW i m,uP]
   rw[List.take_left' (by rw[rR,bX];omega)]
  have e2:tL (m.drop (i+1))=(tL m).drop ((i+1)*5):=by
   conv=>rhs;rw[<-bW (i+1) m,uP]
   rw[List.drop_left' (by rw[rR,bX];omega)]
  rw[e1,e2];exact P
 have HW:Hid (p=w.drew.setCells b (0+i*5) a):=g;have HQ:=H9 N;have hic:i<=cap:=by omega
 have hjc:j<=cap:=by omega
 have hjl:j<=l.length:=by omega
 have hne:¬i=j:=by omega
 have hlt:i<j:=by omega
 have hnc:¬cap=i+(l.length-j):=by omega
 have Hi:=H9 v;have kG:=H9 y
 clear g L s D hK h c d q UQ v G y H hj N;generalize l.length=n at *;go_enter func219,ntmps219;go_wp2_with fail
 go_region_law (refine step_append_room rfl (.tmp 22) (.tmp 25) 40 rfl 101 i0 5 underlying40 Hi.o kG.o b 0 i cap (by simp[Act.eval,Act.put]) C (n-j) (cap-j) a (by simp[Act.eval,Act.put]) s1.out z.out s2.out (by omega) s3.out ?_;rw[<-HW.o])
 go_wp2;go_ret;exact⟨by rw[<-HQ.o];rfl,HE.o⟩
theorem SY (s:Sp.St)(S:Nat->Prop)(g:Nat)(f:Int)(w:X)(h:iU w S g s)(ok:Sp.Ok s):
 Calls prog 175 #[Q (M ⟨g,0,U⟩),I J f] w (Did S 104 w g (Sp.drop s f)):=by
 have hN:=ok.few;rw[Sp.abu];have u:=H9 (tY s S g f w h (by omega));have x:=H9 h;clear h ok;cases j:Sp.place s.l f with
 | none =>
   rw[Sp.zo j] at u;have T:Hid (∀W,Below w.heap.size w W->Did S 104 w g (Sp.nY s f (Sp.Vb s)) (Y (I J (10:Nat))) W):=fun W c=>Did.none_ x.o c (Sp.Ar j);clear j;go_enter func175,ntmps175;go_wp2_with fail
   refine u.o.mono ?_;rintro e q ⟨rfl,c⟩;have HB:=H9 c;clear c;go_wp2;go_ret;exact T.o _ HB.o
 | some i =>
   rw[Sp.zq j] at u;have y:=Sp.tT j;have v:Sp.nY s f (Sp.Vb s)=(⟨s.l.eraseIdx i,s.last⟩,0):=Sp.Au j;clear j;have z:=H9 v;clear v;go_enter func175,ntmps175;go_wp2_with fail
   refine u.o.mono ?_;rintro e q ⟨rfl,c⟩;obtain⟨ao,a,c0,c1,f0,f1,B,C,D⟩:=(x.o.stay c).cells;obtain⟨t,rfl,m,_⟩:=D.at_.row i y;have HD:Hid (Calls prog 219 #[Z (M ⟨t,0,U⟩) s.l.length a,I J i,I J ((i:Int)+1)] q _):=L6 _ s.l t a s.l.length i (i+1) q D rfl (by omega) y rfl;have L:Hid (∀b,qE b (gM (fun k=>S k∧k≠g) q) 101 5 (M ⟨t,0,U⟩) a (s.l.eraseIdx i)->Turns (fun k=>k=t) q b->b.cell? ⟨g,0,U⟩=M (Z (M ⟨t,0,U⟩) s.l.length a)∧b.frozen? ⟨g,0,U⟩=false∧Did S 104 w g (Sp.nY s f (Sp.Vb s)) (Y (I J 0)) (b.setCell ⟨g,0,U⟩ (Z (M ⟨t,0,U⟩) (s.l.length-1) a))):=fun b d N=>by
    have p:=N.row B (fun e=>m.2 e.symm);have hgl:g<q.heap.size:=(aK.1 B).1;have hsz:=c.size;obtain⟨hL,G⟩:=oh.lay (S:=gM S w) p (Or.inl C) (n:=s.l.length-1) (d.mono (fun k _ e=>by
     rcases e with e | e
     . exact⟨Or.inl e.1,e.2⟩
     . exact⟨Or.inr (by omega),by omega⟩)) (by rw[List.length_eraseIdx_of_lt y])
    refine⟨fJ b g 0 _ _ _ p,fK b g 0 _ _ p,⟨by rw[z.o];rfl,by rw[z.o];exact hL,?_⟩⟩;exact((Turns.of_below c).trans (N.mono (fun k e=>by subst e;exact m.1)) (fun _ e _=>e)).trans (G.mono (fun k e=>by subst e;exact C)) (fun _ e _=>e)
   have hw:IntKind.i64.wrap ((i:Int)+1)=(i:Int)+1:=lY (by omega) (by omega);have hi':(i:Int)<s.l.length:=by omega
   clear c D m B C c1 f0 f1 z x u;generalize Sp.nY s f (Sp.Vb s)=r at *;go_wp2_with fail
   refine HD.o.mono ?_;rintro e b ⟨rfl,d,O⟩;obtain⟨c0',f0',P⟩:=L.o b d O;have H:=H9 P;clear P d O L;go_wp2;go_ret;exact H.o
end Go.Proofs.YtjmndjmhjleabaaGreatDoor