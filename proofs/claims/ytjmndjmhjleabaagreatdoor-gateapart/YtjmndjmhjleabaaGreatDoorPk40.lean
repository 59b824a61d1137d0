/- Small texts, one behind the other: SqE, SqF, SqG. -/
import Derived.Test.YtjmndjmhjleabaaGreatDoorAl
import Derived.Test.YtjmndjmhjleabaaGreatDoorAm
import Derived.Test.YtjmndjmhjleabaaGreatDoorPk37
import Derived.Test.YtjmndjmhjleabaaGreatDoorPk10
import Derived.Deep.RegionHeld3
import Derived.Deep.RegionLaw
import Derived.Lib.SliceRun
set_option maxHeartbeats 2000000
set_option maxRecDepth 100000
open Go.Proofs.Tryz
namespace Go.Proofs.YtjmndjmhjleabaaGreatDoor
open Go.RowKit
theorem Did.grow {w:World}{S:Nat->Prop}{tO g gu i:Nat}{s:Sp.St}(h:om w S tO 101 5 g s)(hp:oq w g gu s.l.length)(hi:i<s.l.length):∃q:yQ,w.cell? ⟨gu,i*5+3,none⟩=some (.slice q.bo s.l[i].bytes.length q.gK)∧gZ w (fun _=>True) 5 q.bo q.gK s.l[i].bytes ∧
 (∀w1,Turns (fun k=>jN s.l[i].bytes q.bo=some k) w w1->w1.cell? ⟨gu,i*5+3,none⟩=some (.slice q.bo s.l[i].bytes.length q.gK)∧w1.frozen? ⟨gu,i*5+3,none⟩=false) ∧
 ∀w1 oG kD bs n (r:Sp.St×Nat),gZ w1 (fun k=>jN s.l[i].bytes q.bo=some k∨w.heap.size<=k) 5 oG kD bs->Turns (fun k=>jN s.l[i].bytes q.bo=some k) w w1->n=bs.length->r=(⟨s.l.set i { s.l[i] with bytes:=bs },s.last⟩,0)->Did S tO w g r (.returned (.int .i64 0)) (w1.setCell ⟨gu,i*5+3,none⟩ (.slice oG n kD)):=by
 obtain⟨ao,cap,c0,c1,f0,f1,hg,hS,hU⟩:=h.cells;obtain⟨cap',V7,hc⟩:=hp;rw[c0] at hc;injection hc with hc;injection hc with ha _ _;subst ha;obtain⟨g2,q,e2,hS2,hlt2,h0,h1,h2,h3,h4,hf,hG,hK⟩:=hU.lies i hi;injection e2 with e2;injection e2 with e2;subst e2;have hne:jN s.l[i].bytes q.bo≠some gu:=fun e=>(hG.blk e).1.2 rfl;have UK:jN s.l[i].bytes q.bo≠some g:=fun e=>(hG.blk e).1.1.2 rfl;refine⟨q,h3,hG.mono (fun _ _ _=>trivial),fun w1 hT=>?_,fun w1 oG kD bs n r hB hT hn hr=>?_⟩
 . have hb:=hT.block gu hlt2 hne;exact⟨by rw[gG (a:=⟨gu,i*5+3,none⟩) hb];exact h3,by rw[gH (a:=⟨gu,i*5+3,none⟩) hb];exact hf _⟩
 . subst hr;obtain⟨hU2,jV⟩:=hK w1 oG kD bs n hB hT hn;have hgl:g<w.heap.size:=(aL.1 hg).1;refine⟨rfl,⟨some ⟨gu,0,none⟩,cap,?_,Or.inl hS,?_⟩,jV.mono (fun k e=>e.1)⟩
   . have:=jV.row hg (fun e=>e.2 rfl);simpa using this
   . refine hU2.mono (fun k _ e=>?_);rcases e with e | e
     . exact⟨Or.inl e.1,e.2⟩
     . exact⟨Or.inr e,by omega⟩
theorem OI (s:Sp.St)(S:Nat->Prop)(g gu i b1 b2 b3:Nat)(off:Int)(AX:ak)(cap2 n2:Nat)(b:av)(w:World)(h:iV w S g s)(hp:oq w g gu s.l.length)(hi:i<s.l.length)(ok:Sp.Ok s)
 (d1:w.cell? ⟨b1,0,none⟩=some (.int .i64 off)) (d2:w.cell? ⟨b2,0,none⟩=some (.slice AX n2 cap2)) (d3:w.cell? ⟨b3,0,none⟩=some (.pointer (some ⟨g,0,none⟩))) (hb:iH w AX cap2 b) (hn2:b.length=n2) (hN:n2<=1000000) :
 Calls prog 215 #[.pointer (some ⟨gu,i*5,none⟩),.pointer (some ⟨b1,0,none⟩),.pointer (some ⟨b2,0,none⟩),.pointer (some ⟨b3,0,none⟩)] w (Did S 104 w g (Sp.zw s off b i s.l[i])):=by
 obtain⟨q,h0,h1,h2,h3,h4,hf,hB⟩:=oq.up h hp hi;have hk:=ok.all _ (aC hi);have k0:=hk.GL;have k1:=hk.Kg;have k2:=hk.long;have k3:=hk.fits
 have hq:=ok.quota;have nO:=ok.few
 clear hk;by_cases hs:s.l[i].sent=0
 . have e1:¬s.l[i].sent≠0:=by simpa using hs
   rw[hs] at h4;by_cases ho:off=s.l[i].bytes.length
   . have e2:¬off≠s.l[i].bytes.length:=by simpa using ho
     have HM:=H9 (fun n=>Ws gu (i*5) s.l[i].size (w.drewN n) (by rw[World.cell?_drewN];exact h1));have HU:=H9 (fun W (hW:aj w W)=>R6 s S g W (h.stay hW) (by omega) (by omega));by_cases hl:(if s.l[i].size=-1 then 2000 else s.l[i].size)<(s.l[i].bytes.length:Int)+n2
     . have HR:Hid (∀W,aj w W->Did S 104 w g (Sp.zw s off b i s.l[i]) (.returned (.int .i64 (4:Nat))) W):=fun W hW=>Did.none_ h hW (by
        unfold Sp.zw;rw[if_neg e1,if_neg e2,if_pos];rw[hn2];split at hl <;> omega)
       clear h hp hf h0 h2 hB e1 e2 hs k3;generalize s.l[i]=u at *;generalize (if u.size=-1 then 2000 else u.size)=mo at *;have hw1:IntKind.i64.wrap ((u.bytes.length:Int)+n2)=(u.bytes.length:Int)+n2:=lZ (by omega) (by omega);subst ho;go_enter func215,ntmps215;go_wp2;go_quiet (fail)
       go_wp2;go_quiet ((go_at_call 216;exact(HM.o _).mono (fun e w2 hw=>⟨hw.1,_,hw.2⟩)))
       go_wp2;go_ret;exact HR.o _ ⟨rfl,rfl,rfl,aM _,fun _ _=>rfl⟩
     . have e3:¬(2000<s.l[i].bytes.length+b.length∨(0<=s.l[i].size∧s.l[i].size<(s.l[i].bytes.length:Int)+b.length)):=by
        rw[hn2];split at hl <;> omega
       have HC:Hid (∀W,aj w W->W.cell? ⟨b2,0,none⟩=some (.slice AX n2 cap2)∧W.cell? ⟨b3,0,none⟩=some (.pointer (some ⟨g,0,none⟩)) ):=fun W hW=>⟨by rw[hW.cell (p:=⟨b2,0,none⟩) (gq w _ d2)];exact d2,by rw[hW.cell (p:=⟨b3,0,none⟩) (gq w _ d3)];exact d3⟩;have n3:¬((s.l[i].bytes.length:Int)+n2 > if s.l[i].size=-1 then 2000 else s.l[i].size):=by omega
       by_cases hu:6000<Sp.used s.l+n2
       . have HR:Hid (∀W,aj w W->Did S 104 w g (Sp.zw s off b i s.l[i]) (.returned (.int .i64 (16:Nat))) W):=fun W hW=>Did.none_ h hW (by
          unfold Sp.zw;rw[if_neg e1,if_neg e2,if_neg e3,if_pos (by rw[hn2];exact hu)])
         clear h hp hf h0 h2 hB e1 e2 e3 hs k3 hl;generalize s.l[i]=u at *;generalize (if u.size=-1 then 2000 else u.size)=mo at *;have hw1:IntKind.i64.wrap ((u.bytes.length:Int)+n2)=(u.bytes.length:Int)+n2:=lZ (by omega) (by omega);have hw2:IntKind.i64.wrap ((Sp.used s.l:Int)+n2)=(Sp.used s.l:Int)+n2:=lZ (by omega) (by omega);have tu:decide ((Sp.used s.l:Int)+n2 > 6000)=true:=by rw[bR];omega
         generalize Sp.used s.l=us at *;subst ho;go_enter func215,ntmps215;go_wp2;go_quiet (fail)
         go_wp2;go_quiet ((go_at_call 216;exact(HM.o _).mono (fun e w2 hw=>⟨hw.1,_,hw.2⟩)))
         go_wp2;go_region_held3 (fun w'=>w'.cell? ⟨b2,0,none⟩=some (.slice AX n2 cap2)∧w'.cell? ⟨b3,0,none⟩=some (.pointer (some ⟨g,0,none⟩))) (go_keep) (first | (go_at_call 217;refine(HU.o _ ?_).mono ?_;(exact⟨rfl,rfl,rfl,aM _,fun _ _=>rfl⟩);rintro e w2 ⟨rfl,hb2⟩;have hb3:aj w w2:=then_ (lN w _) hb2;obtain⟨c2,c3⟩:=HC.o w2 hb3;have HB2:=H9 hb3;clear hb2 hb3))
         all_goals
          go_wp2;go_ret;exact HR.o _ HB2.o
       . have HR:Hid (∀w2,aj w w2->∃q2:yQ,w2.cell? ⟨gu,i*5+3,none⟩=some (.slice q2.bo s.l[i].bytes.length q2.gK)∧gZ w2.drew (fun _=>True) 5 q2.bo q2.gK s.l[i].bytes ∧
          (∀w1,Turns (fun k=>jN s.l[i].bytes q2.bo=some k) w2.drew w1->w1.cell? ⟨gu,i*5+3,none⟩=some (.slice q2.bo s.l[i].bytes.length q2.gK)∧w1.frozen? ⟨gu,i*5+3,none⟩=false) ∧
          ∀w1 oG kD,gZ w1 (fun k=>jN s.l[i].bytes q2.bo=some k∨w2.drew.heap.size<=k) 5 oG kD (s.l[i].bytes++b)->Turns (fun k=>jN s.l[i].bytes q2.bo=some k) w2.drew w1->Did S 104 w g (Sp.zw s off b i s.l[i]) (.returned (.int .i64 0)) (w1.setCell ⟨gu,i*5+3,none⟩ (.slice oG (s.l[i].bytes.length+n2) kD))):=fun w2 hb2=>by
          have hb3:aj w w2.drew:=hb2.trans (gQ _ _);obtain⟨q2,g1,g2,g3,g4⟩:=Did.grow (h.stay hb3) (hp.stay hb3) hi;refine⟨q2,g1,g2,g3,fun w1 oG kD hB hT=>Did.from_ hb3 (g4 w1 oG kD _ _ _ hB hT (by rw[aW,hn2]) ?_)⟩;unfold Sp.zw;rw[if_neg e1,if_neg e2,if_neg e3,if_neg (by rw[hn2];exact hu)]
         have HBS:=H9 (fun w2 (hW:aj w w2)=>iH.stay (iH.stay hb hW) (gQ _ w2));have MZ:=H9 hn2;obtain⟨i0,hi0,hz0,hz1,hz2⟩:=info_parts jO;have Hi:=H9 hi0;have kK:=H9 hz0;have kH:=H9 hz1;have kL:=H9 hz2
         clear h hp hf h0 h2 hB e1 e2 e3 hs k3 hl hb hn2 hi0 hz0 hz1 hz2;generalize s.l[i]=u at *;generalize (if u.size=-1 then 2000 else u.size)=mo at *;have hw1:IntKind.i64.wrap ((u.bytes.length:Int)+n2)=(u.bytes.length:Int)+n2:=lZ (by omega) (by omega);have hw2:IntKind.i64.wrap ((Sp.used s.l:Int)+n2)=(Sp.used s.l:Int)+n2:=lZ (by omega) (by omega);have tu:decide ((Sp.used s.l:Int)+n2 > 6000)=false:=by rw[bQ];omega
         generalize Sp.used s.l=us at *;subst ho;go_enter func215,ntmps215;go_wp2;go_quiet (fail)
         go_wp2;go_quiet ((go_at_call 216;exact(HM.o _).mono (fun e w2 hw=>⟨hw.1,_,hw.2⟩)))
         go_wp2;go_region_held3 (fun w'=>w'.cell? ⟨b2,0,none⟩=some (.slice AX n2 cap2)∧w'.cell? ⟨b3,0,none⟩=some (.pointer (some ⟨g,0,none⟩))) (go_keep) (first | (go_at_call 217;refine(HU.o _ ?_).mono ?_;(exact⟨rfl,rfl,rfl,aM _,fun _ _=>rfl⟩);rintro e w2 ⟨rfl,hb2⟩;have hb3:aj w w2:=then_ (lN w _) hb2;obtain⟨c2,c3⟩:=HC.o w2 hb3;have HB2:=H9 hb3;clear hb2 hb3))
         all_goals
          obtain⟨q2,g1,g2,g3,g4⟩:=HR.o w2 HB2.o;have HG:=H9 g2;have HKp:=H9 g3;have WT:=H9 g4
          have HSr:=H9 (HBS.o w2 HB2.o);clear g2 g3 g4 HR HBS h3;go_wp2;go_region_law ((refine oh (by rfl) _ _ _ (by rfl) 5 i0 underlying31 Hi.o kK.o kH.o kL.o (by rfl) (by rfl) HG.o rfl HSr.o MZ.o (by omega) ?_;intro bo3 gX w3 hO3 pF;have oD:=H9 hO3;have HT3:=H9 pF;obtain⟨v0,f0⟩:=HKp.o w3 pF;clear hO3 pF))
          all_goals
           go_wp2;go_ret;exact WT.o _ _ _ oD.o HT3.o
   . have HR:Hid (∀n,Did S 104 w g (Sp.zw s off b i s.l[i]) (.returned (.int .i64 (17:Nat))) (w.drewN n)):=fun n=>Did.none_ (c:=17) (r:=Sp.zw s off b i s.l[i]) h (lN w n) (by unfold Sp.zw;rw[if_neg e1,if_pos ho]);clear h hp hf h0 h2 hB e1 hs;generalize s.l[i]=u at *;go_enter func215,ntmps215;go_wp2;go_quiet (fail)
     go_wp2;go_ret;exact HR.o _
 . have HR:Hid (Did S 104 w g (Sp.zw s off b i s.l[i]) (.returned (.int .i64 (19:Nat))) w):=Did.none_ h (fJ _ _) (by unfold Sp.zw;rw[if_pos hs]);clear h hp hf h0 h2 hB;generalize s.l[i]=u at *;go_enter func215,ntmps215;go_wp2;go_ret;exact HR.o
theorem mQ (w:World)(v:Value)(t k:Nat)(hk:w.heap.size=k):(w.alloc (.cells #[v] t)).cell? ⟨k,0,none⟩=some v:=by subst hk;exact World.cell?_alloc_mark w _ _ _ 0
theorem kS (w:World)(o:Obj)(k:Nat)(v:Value)(h:w.cell? ⟨k,0,none⟩=some v):(w.alloc o).cell? ⟨k,0,none⟩=some v:=by
 rw[((fJ w.heap.size w).alloc (aM _) o).cell (p:=⟨k,0,none⟩) (gq w _ h)];exact h
theorem JC (s:Sp.St)(S:Nat->Prop)(g:Nat)(id sz:Int)(w:World)(h:iV w S g s)(ok:Sp.Ok s):
 Calls prog 173 #[.pointer (some ⟨g,0,none⟩),.int .i64 id,.int .i64 sz] w (Did S 104 w g (Sp.declare s id sz)):=by
 have hB:aj w (w.alloc (.cells #[.int .i64 sz] 3)):=(fJ _ _).alloc (aM _) _;have HC:=H9 (OG s S g id (w.alloc (.cells #[.int .i64 sz] 3)) (h.stay hB) (by have:=ok.few;omega) w.heap.size (Sp.jH s sz) (fun w1 i gu hi hb h1 hp=>NZ s S g gu i w.heap.size sz w1 h1 hp hi (ok.all _ (aC hi)).GL (by rw[hb.cell (p:=⟨w.heap.size,0,none⟩) (by simp)];exact World.cell?_alloc_mark w _ _ _ 0)));rw[<-Sp.Rj] at HC;generalize Sp.declare s id sz=r at *;have HB:=H9 hB;have UL:∀(fn:Fn) (first cap:Array Value) (w:World),(Instr.makeFunc fn first cap).run prog w=.ok (.func fn first cap) w:=fun _ _ _ _=>rfl;clear h ok hB;go_enter func173,ntmps173;go_wp2_with fail
 refine HC.o.mono ?_;intro e w2 hd;have HD:=H9 (Did.from_ HB.o hd);obtain⟨rfl,_,_⟩:=hd;go_wp2;go_ret;exact HD.o
theorem L6 (s:Sp.St)(S:Nat->Prop)(g:Nat)(id off:Int)(bo:ak)(n cap:Nat)(b:av)(w:World)(h:iV w S g s)(ok:Sp.Ok s)(hb:iH w bo cap b)(hn:b.length=n)(hN:n<=1000000):
 Calls prog 171 #[.pointer (some ⟨g,0,none⟩),.int .i64 id,.int .i64 off,.slice bo n cap] w (Did S 104 w g (Sp.append s id off b)):=by
 have hB1:aj w (w.alloc (.cells #[.pointer (some ⟨g,0,none⟩)] 42)):=(fJ _ _).alloc (aM _) _;have hB:aj w (((w.alloc (.cells #[.pointer (some ⟨g,0,none⟩)] 42)).alloc (.cells #[.int .i64 off] 3)).alloc (.cells #[.slice bo n cap] 31)):=(hB1.alloc (by simp) _).alloc (by simp;omega) _;have hc:∀W,Below (((w.alloc (.cells #[.pointer (some ⟨g,0,none⟩)] 42)).alloc (.cells #[.int .i64 off] 3)).alloc (.cells #[.slice bo n cap] 31)).heap.size (((w.alloc (.cells #[.pointer (some ⟨g,0,none⟩)] 42)).alloc (.cells #[.int .i64 off] 3)).alloc (.cells #[.slice bo n cap] 31)) W->W.cell? ⟨w.heap.size+1,0,none⟩=some (.int .i64 off)∧W.cell? ⟨w.heap.size+2,0,none⟩=some (.slice bo n cap)∧W.cell? ⟨w.heap.size,0,none⟩=some (.pointer (some ⟨g,0,none⟩)):=fun W hW=>by
  refine⟨?_,?_,?_⟩
  . rw[hW.cell (p:=⟨w.heap.size+1,0,none⟩) (by simp)];exact kS _ _ _ _ (mQ _ _ _ _ (by simp))
  . rw[hW.cell (p:=⟨w.heap.size+2,0,none⟩) (by simp)];exact mQ _ _ _ _ (by simp)
  . rw[hW.cell (p:=⟨w.heap.size,0,none⟩) (by simp;omega)];exact kS _ _ _ _ (kS _ _ _ _ (mQ _ _ _ _ rfl))
 have HC:=H9 (OH s S g id _ (h.stay hB) (by have:=ok.few;omega) (w.heap.size+1) (w.heap.size+2) w.heap.size (Sp.zw s off b) (fun w1 i gu hi hb1 h1 hp=>OI s S g gu i (w.heap.size+1) (w.heap.size+2) w.heap.size off bo cap n b w1 h1 hp hi ok (hc w1 hb1).1 (hc w1 hb1).2.1 (hc w1 hb1).2.2 ((hb.stay hB).stay hb1) hn hN));rw[<-Sp.Ve] at HC;generalize Sp.append s id off b=r at *;have HB:=H9 hB;have UL:∀(fn:Fn) (first cap:Array Value) (w:World),(Instr.makeFunc fn first cap).run prog w=.ok (.func fn first cap) w:=fun _ _ _ _=>rfl;clear h ok hB hB1 hc hb hn;go_enter func171,ntmps171;go_wp2_with fail
 refine HC.o.mono ?_;intro e w2 hd;have HD:=H9 (Did.from_ HB.o hd);obtain⟨rfl,_,_⟩:=hd;go_wp2;go_ret;exact HD.o
theorem JD:(prog.info? 101).map (fun i=>(i.zero,i.size,i.bytes))=some (some (.agg #[.int .i64 0,.int .i64 0,.string ⟨#[]⟩,.slice none 0 0,.int .i64 0]),5,64):=by kernel_rfl
theorem ZE (w:World):(zeroValue 101).run prog w=.ok (.agg #[.int .i64 0,.int .i64 0,.string ⟨#[]⟩,.slice none 0 0,.int .i64 0]) w:=by kernel_rfl
def upZ:List Value:=[.int .i64 0,.int .i64 0,.string ⟨#[]⟩,.slice none 0 0,.int .i64 0]
theorem L8 (S:Nat->Prop)(l:List Sp.Up)(gu cap n i j:Nat)(w:World)(h:qF w S 101 5 (some ⟨gu,0,none⟩) cap l)(hn:l.length=n)(hN:n<=1000)(hi:i<n)(hj:j=i+1):
 Calls prog 219 #[.slice (some ⟨gu,0,none⟩) n cap,.int .i64 i,.int .i64 j] w fun e w'=>e=.returned (.slice (some ⟨gu,0,none⟩) (n-1) cap)∧qF w' (gN S w) 101 5 (some ⟨gu,0,none⟩) cap (l.eraseIdx i)∧Turns (fun k=>k=gu) w w':=by
 subst hn;obtain⟨us,UR,hO,hK⟩:=h.drop i hi;have hcap:=h.cap_;obtain⟨i0,hi0,hz0,hz1,hz2⟩:=info_parts JD;have hmax:cap<=9223372036854775807:=by
  rcases hO.2 with ⟨e,_⟩ | ⟨g',cap',cur,e,hg,hh,hn,hc,hs,ht⟩
  . simp at e
  . injection e with _ _ e;subst e;exact hc
 have Yt:gV w.drew 0 101 5 (some ⟨gu,0,none⟩) cap l.length (tN us):=hO.stay (gQ _ _);have hlen:(tN us).length=l.length*5:=by rw[rT,UR]
 obtain⟨news,hnews⟩:∃news,news=(tN us).drop ((i+1)*5):=⟨_,rfl⟩;have hnl:news.length=(l.length-j)*5:=by rw[hnews,bV,hlen];omega
 obtain⟨A,hA,hsrc⟩:∃A:Addr,(if cap=j then some (⟨gu,0,none⟩:Addr) else some ⟨gu,j*5,none⟩)=some A∧Hid (∀t u,news[t]? = some u->w.drew.cell? (A.add t)=some u):=by
  by_cases hc:cap=j
  . refine⟨⟨gu,0,none⟩,by simp[hc],fun t u hu=>?_⟩;have h0:news.length=0:=by rw[hnl];omega
    rw[dK.1 h0] at hu;simp at hu
  . refine⟨⟨gu,j*5,none⟩,by simp[hc],fun t u hu=>?_⟩;have ht:t<(l.length-j)*5:=by
     have:=(aQ.1 hu).1;rwa[hnl] at this
    rw[hnews,List.getElem?_drop] at hu;rw[gI,fT Yt (j*5+t) (by omega),<-hu,hj]
 have s1:=H9 hnl;have s2:Hid (∀u∈news,u.oneCell'=true):=fun u hu=>by
  rw[hnews] at hu;have hu:=List.mem_of_mem_drop hu;obtain⟨x,_,hx⟩:=List.mem_flatMap.1 hu;exact Qs _ _ u hx
 have s3:Hid (∀t,t<news.length->(w.drew.cell? ⟨gu,0+i*5+t,none⟩).isSome=true∧w.drew.frozen? ⟨gu,0+i*5+t,none⟩=false):=fun t ht=>by
  rw[hnl] at ht;rw[fT Yt (0+i*5+t) (by omega),dD (by omega)];exact⟨rfl,fU Yt _⟩
 obtain⟨W1,hW1⟩:∃W1,W1=w.drew.setCells gu (0+i*5) news:=⟨_,rfl⟩;have qz:gV W1 0 101 5 (some ⟨gu,0,none⟩) cap l.length (zM (tN us) (0+i*5) news):=by rw[hW1];exact Yt.lays news (0+i*5)
 have hq:i+(l.length-j)=l.length-1:=by omega
 have hcl:∀ty,(Builtin.clear_ #[40] ty #[.slice (some ⟨gu,(i+(l.length-j))*5,none⟩) (l.length-(i+(l.length-j))) (cap-(i+(l.length-j)))]).run prog W1=.ok (.tuple #[]) (W1.setCells gu ((i+(l.length-j))*5) upZ):=fun ty=>by
  rw[show l.length-(i+(l.length-j))=1 by omega];refine FX W1 _ _ ty _ underlying40 ZE (by decide) gu ((i+(l.length-j))*5) _ (fun t ht=>?_) (fun t ht=>fU qz _);have ht:t<5:=ht;rw[fT qz _ (by omega),dD (by rw[zN];omega)];rfl
 have HE:Hid (qF (W1.setCells gu ((i+(l.length-j))*5) upZ) (gN S w) 101 5 (some ⟨gu,0,none⟩) cap (l.eraseIdx i)∧Turns (fun k=>k=gu) w (W1.setCells gu ((i+(l.length-j))*5) upZ)):=by
  have hT:Turns (fun k=>k=gu) w (W1.setCells gu ((i+(l.length-j))*5) upZ):=by
   rw[hW1];exact((Turns.of_below (gQ _ w)).trans (mM gu news _ w.drew) (fun _ e _=>e)).trans (mM gu upZ _ _) (fun _ e _=>e)
  have hO2:=Yt.gone i hi upZ;refine⟨(hK _ (some ⟨gu,0,none⟩) cap ?_ (hT.mono (fun k e=>by subst e;rfl)) (fun k e=>Or.inl e)).1,hT⟩;rw[R5,hW1,hnews,hq,bq];have e1:tN (us.take i)=(tN us).take (i*5):=by
   conv=>rhs;rw[<-bX i us,uQ]
   rw[List.take_left' (by rw[rT,bY];omega)]
  have e2:tN (us.drop (i+1))=(tN us).drop ((i+1)*5):=by
   conv=>rhs;rw[<-bX (i+1) us,uQ]
   rw[List.drop_left' (by rw[rT,bY];omega)]
  rw[e1,e2];exact hO2
 have HW:Hid (W1=w.drew.setCells gu (0+i*5) news):=hW1;have HQ:=H9 hq;have hic:i<=cap:=by omega
 have hjc:j<=cap:=by omega
 have hjl:j<=l.length:=by omega
 have hne:¬i=j:=by omega
 have hlt:i<j:=by omega
 have hnc:¬cap=i+(l.length-j):=by omega
 have Hi:=H9 hi0;have kH:=H9 hz1
 clear hW1 qz Yt hO hK h hnews hnl hlen UR hi0 hz0 hz1 hz2 hj hq;generalize l.length=n at *;go_enter func219,ntmps219;go_wp2_with fail
 go_region_law (refine step_append_room rfl (.tmp 22) (.tmp 25) 40 rfl 101 i0 5 underlying40 Hi.o kH.o gu 0 i cap (by simp[Act.eval,Act.put]) A (n-j) (cap-j) news (by simp[Act.eval,Act.put]) s1.out hsrc.out s2.out (by omega) s3.out ?_;rw[<-HW.o])
 go_wp2;go_ret;exact⟨by rw[<-HQ.o];rfl,HE.o⟩
theorem S9 (s:Sp.St)(S:Nat->Prop)(g:Nat)(id:Int)(w:World)(h:iV w S g s)(ok:Sp.Ok s):
 Calls prog 175 #[.pointer (some ⟨g,0,none⟩),.int .i64 id] w (Did S 104 w g (Sp.drop s id)):=by
 have hN:=ok.few;rw[Sp.abv];have HI:=H9 (tZ s S g id w h (by omega));have HA:=H9 h;clear h ok;cases hp:Sp.place s.l id with
 | none =>
   rw[Sp.zq hp] at HI;have HR:Hid (∀W,aj w W->Did S 104 w g (Sp.nZ s id (Sp.Vd s)) (.returned (.int .i64 (10:Nat))) W):=fun W hb=>Did.none_ HA.o hb (Sp.Au hp);clear hp;go_enter func175,ntmps175;go_wp2_with fail
   refine HI.o.mono ?_;rintro e w1 ⟨rfl,hb⟩;have HB:=H9 hb;clear hb;go_wp2;go_ret;exact HR.o _ HB.o
 | some i =>
   rw[Sp.zu hp] at HI;have hi:=Sp.tV hp;have hat:Sp.nZ s id (Sp.Vd s)=(⟨s.l.eraseIdx i,s.last⟩,0):=Sp.Av hp;clear hp;have HT:=H9 hat;clear hat;go_enter func175,ntmps175;go_wp2_with fail
   refine HI.o.mono ?_;rintro e w1 ⟨rfl,hb⟩;obtain⟨ao,cap,c0,c1,f0,f1,hg,hS,hU⟩:=(HA.o.stay hb).cells;obtain⟨gu,rfl,hSu,_⟩:=hU.at_.row i hi;have HD:Hid (Calls prog 219 #[.slice (some ⟨gu,0,none⟩) s.l.length cap,.int .i64 i,.int .i64 ((i:Int)+1)] w1 _):=L8 _ s.l gu cap s.l.length i (i+1) w1 hU rfl (by omega) hi rfl;have HE:Hid (∀w2,qF w2 (gN (fun k=>S k∧k≠g) w1) 101 5 (some ⟨gu,0,none⟩) cap (s.l.eraseIdx i)->Turns (fun k=>k=gu) w1 w2->w2.cell? ⟨g,0,none⟩=some (.slice (some ⟨gu,0,none⟩) s.l.length cap)∧w2.frozen? ⟨g,0,none⟩=false∧Did S 104 w g (Sp.nZ s id (Sp.Vd s)) (.returned (.int .i64 0)) (w2.setCell ⟨g,0,none⟩ (.slice (some ⟨gu,0,none⟩) (s.l.length-1) cap))):=fun w2 hU2 hT=>by
    have hg2:=hT.row hg (fun e=>hSu.2 e.symm);have hgl:g<w1.heap.size:=(aL.1 hg).1;have hsz:=hb.size;obtain⟨hL,hTL⟩:=om.lay (S:=gN S w) hg2 (Or.inl hS) (n:=s.l.length-1) (hU2.mono (fun k _ e=>by
     rcases e with e | e
     . exact⟨Or.inl e.1,e.2⟩
     . exact⟨Or.inr (by omega),by omega⟩)) (by rw[List.length_eraseIdx_of_lt hi])
    refine⟨fK w2 g 0 _ _ _ hg2,fM w2 g 0 _ _ hg2,⟨by rw[HT.o];rfl,by rw[HT.o];exact hL,?_⟩⟩;exact((Turns.of_below hb).trans (hT.mono (fun k e=>by subst e;exact hSu.1)) (fun _ e _=>e)).trans (hTL.mono (fun k e=>by subst e;exact hS)) (fun _ e _=>e)
   have hw:IntKind.i64.wrap ((i:Int)+1)=(i:Int)+1:=lZ (by omega) (by omega);have hi':(i:Int)<s.l.length:=by omega
   clear hb hU hSu hg hS c1 f0 f1 HT HA HI;generalize Sp.nZ s id (Sp.Vd s)=r at *;go_wp2_with fail
   refine HD.o.mono ?_;rintro e w2 ⟨rfl,hU2,jV⟩;obtain⟨c0',f0',hd⟩:=HE.o w2 hU2 jV;have HD2:=H9 hd;clear hd hU2 jV HE;go_wp2;go_ret;exact HD2.o
end Go.Proofs.YtjmndjmhjleabaaGreatDoor