/- Small texts, one behind the other: RqBody, RqBodyB, RqStep, RqStepC, RqStepD. -/
import Derived.Test.YtjmndjmhjleabaaGreatDoorAl
import Derived.Test.YtjmndjmhjleabaaGreatDoorAm
import Derived.Test.YtjmndjmhjleabaaGreatDoorRqA
import Derived.Test.YtjmndjmhjleabaaGreatDoorPk41
set_option maxHeartbeats 2000000
set_option maxRecDepth 100000
open Go.Proofs.Tryz
namespace Go.Proofs.YtjmndjmhjleabaaGreatDoor
open Go.RowKit
theorem Pk (w:World)(S:Nat->Prop)(g:Nat)(s:Ck.St)(c:UInt8)(h:pV w S g s)(hg:Ck.Good s)(h0:s.code=0)(h1:s.ph=1):
 Calls prog 338 #[.pointer (some ⟨g,0,none⟩),.int .u8 c.toNat] w fun e w'=>e=.returned (.tuple #[.slice (some ⟨w.heap.size,0,none⟩) 1 1,.bool false,.int .i64 0])∧pV w' S g (Ck.next s c)∧iF w' 0 5 (some ⟨w.heap.size,0,none⟩) 1 [c]∧Turns S w w':=by
 have hp:Ck.pc s=0:=Ck.lX.2 ⟨h0,by omega⟩;obtain⟨gl,nx,lf,rm,fd,ln,r,hk⟩:=h;obtain⟨rfl,rfl,rfl,rfl,rfl⟩:=hk hp;rw[hp] at r;have hl:=hg.left h1;have hl2:=hg.I9;have elf:Ck.lf s=s.left:=by unfold Ck.lf;rw[if_pos h1]
 rw[elf] at r;have enx:Ck.nx s=1:=by unfold Ck.nx;rw[if_neg (by omega),if_neg (by omega)]
 rw[enx] at r;have c5:w.cell? ⟨g,5,none⟩=some (.int .i64 0):=r.cell 5 (by decide);have c2:w.cell? ⟨g,2,none⟩=some (.int .i64 (s.left:Int)):=r.cell 2 (by decide);have f2:w.frozen? ⟨g,2,none⟩=false:=r.frozen 2;have t2:decide ((s.left:Int) > 0)=true:=aI (by omega);have HR:=H9 (r.left ((s.left:Int)-1));have HT:=H9 (r.turn 2 (.int .i64 ((s.left:Int)-1)));have hn:Ck.next s c={ s with left:=s.left-1,ph:=if s.left<=1 then 2 else 1 }:=by unfold Ck.next;rw[if_neg (fun e=>e h0),if_neg (by omega),if_pos h1]
 have HN:=H9 hn;have HO:Hid (Ck.out s c=[c]):=by unfold Hid Ck.out;rw[if_pos ⟨h0,h1⟩]
 have HV:Hid (Ck.over s c=false):=by
  unfold Hid Ck.over;rw[bQ,hn];intro e;have:(if s.left<=1 then 2 else 1)=4:=e.2.2.2;split at this <;> omega
 have H0:=H9 h0;have HL:=H9 hl
 clear r hk hn hg hp elf enx h0 h1 hl;go_enter func338,ntmps338;go_wp2;go_ret3
 have hb:Below (w.setCell ⟨g,2,none⟩ (.int .i64 ((s.left:Int)-1))).heap.size (w.setCell ⟨g,2,none⟩ (.int .i64 ((s.left:Int)-1))) ((w.setCell ⟨g,2,none⟩ (.int .i64 ((s.left:Int)-1))).alloc (.cells #[.int .u8 (c.toNat:Int)] 5)):=(fJ _ _).alloc (aM _) _;have h0:=H0.o;have hl:=HL.o;have hz:(w.setCell ⟨g,2,none⟩ (.int .i64 ((s.left:Int)-1))).heap.size=w.heap.size:=by simp
 refine⟨by rw[<-hz];rfl,pV.of HN.o (HR.o.stay hb) ?_ (fun _=>⟨rfl,?_,?_,rfl,rfl⟩),?_,HT.o.trans (Turns.of_below hb) (fun _ e _=>e)⟩
 . rw[Ck.lX (s:={ s with left:=s.left-1,ph:=if s.left<=1 then 2 else 1 }) |>.2 ⟨h0,by show(if s.left<=1 then 2 else 1)≠4;split <;> omega⟩]
 . unfold Ck.nx;simp only;split <;> rfl
 . unfold Ck.lf;simp only;split
   . rw[if_neg (by omega)];omega
   . rw[if_pos rfl];omega
 . rw[<-hz];exact gF _ _ 1 (aA _) (by decide) rfl
theorem XK (w:World)(g:Nat)(lp hp bd:Value)(wh:Bool)(v0 v1 v2 v3 v4:Value)(hP:jg w g lp hp wh bd 0):
 (((((((((w.alloc (.cells #[.string ⟨#[]⟩,.string ⟨#[]⟩,.int .i64 0,.slice none 0 0,.int .i64 0] 68)).alloc (.cells #[v0,v1,v2,v3,v4] 68)).setCell ⟨g,1,none⟩ (.pointer none)).setCell ⟨g,2,none⟩ (.bool false)).setCell ⟨w.heap.size,0,none⟩ v0).setCell ⟨w.heap.size,1,none⟩ v1).setCell ⟨w.heap.size,2,none⟩ v2).setCell ⟨w.heap.size,3,none⟩ v3).setCell ⟨w.heap.size,4,none⟩ v4).heap[w.heap.size]? = some (.cells #[v0,v1,v2,v3,v4] 68 (0,0))∧jg (((((((((w.alloc (.cells #[.string ⟨#[]⟩,.string ⟨#[]⟩,.int .i64 0,.slice none 0 0,.int .i64 0] 68)).alloc (.cells #[v0,v1,v2,v3,v4] 68)).setCell ⟨g,1,none⟩ (.pointer none)).setCell ⟨g,2,none⟩ (.bool false)).setCell ⟨w.heap.size,0,none⟩ v0).setCell ⟨w.heap.size,1,none⟩ v1).setCell ⟨w.heap.size,2,none⟩ v2).setCell ⟨w.heap.size,3,none⟩ v3).setCell ⟨w.heap.size,4,none⟩ v4) g lp (.pointer none) false bd 0∧Turns (fun k=>k=g) w (((((((((w.alloc (.cells #[.string ⟨#[]⟩,.string ⟨#[]⟩,.int .i64 0,.slice none 0 0,.int .i64 0] 68)).alloc (.cells #[v0,v1,v2,v3,v4] 68)).setCell ⟨g,1,none⟩ (.pointer none)).setCell ⟨g,2,none⟩ (.bool false)).setCell ⟨w.heap.size,0,none⟩ v0).setCell ⟨w.heap.size,1,none⟩ v1).setCell ⟨w.heap.size,2,none⟩ v2).setCell ⟨w.heap.size,3,none⟩ v3).setCell ⟨w.heap.size,4,none⟩ v4):=by
 have hlt:=hP.lt;have hb:aj w ((w.alloc (.cells #[.string ⟨#[]⟩,.string ⟨#[]⟩,.int .i64 0,.slice none 0 0,.int .i64 0] 68)).alloc (.cells #[v0,v1,v2,v3,v4] 68)):=((fJ _ _).alloc (aM _) _).alloc (by simp) _;have hr0:((w.alloc (.cells #[.string ⟨#[]⟩,.string ⟨#[]⟩,.int .i64 0,.slice none 0 0,.int .i64 0] 68)).alloc (.cells #[v0,v1,v2,v3,v4] 68)).heap[w.heap.size]? = some (.cells #[.string ⟨#[]⟩,.string ⟨#[]⟩,.int .i64 0,.slice none 0 0,.int .i64 0] 68 (0,0)):=by
  rw[(gB _ _ none).block _ (by simp) (by simp),fI]
 have hP2:=((hP.stay hb).s1 (.pointer none)).s2 false;have hr1:=(gD (((w.alloc (.cells #[.string ⟨#[]⟩,.string ⟨#[]⟩,.int .i64 0,.slice none 0 0,.int .i64 0] 68)).alloc (.cells #[v0,v1,v2,v3,v4] 68)).setCell ⟨g,1,none⟩ (.pointer none)) ⟨g,2,none⟩ w.heap.size (.bool false) (by show w.heap.size≠g;omega)).trans ((gD ((w.alloc (.cells #[.string ⟨#[]⟩,.string ⟨#[]⟩,.int .i64 0,.slice none 0 0,.int .i64 0] 68)).alloc (.cells #[v0,v1,v2,v3,v4] 68)) ⟨g,1,none⟩ w.heap.size (.pointer none) (by show w.heap.size≠g;omega)).trans hr0);have q0:=fO _ _ 0 _ _ v0 hr1;have q1:=fO _ _ 1 _ _ v1 q0;have q2:=fO _ _ 2 _ _ v2 q1;have q3:=fO _ _ 3 _ _ v3 q2;have q4:=fO _ _ 4 _ _ v4 q3;have T0:∀(W:World) (j:Nat) (v:Value),Turns (fun k=>k=w.heap.size) W (W.setCell ⟨w.heap.size,j,none⟩ v):=fun W j v=>Turns.setCell _ W _ _ rfl;have TT:=(T0 ((((w.alloc (.cells #[.string ⟨#[]⟩,.string ⟨#[]⟩,.int .i64 0,.slice none 0 0,.int .i64 0] 68)).alloc (.cells #[v0,v1,v2,v3,v4] 68)).setCell ⟨g,1,none⟩ (.pointer none)).setCell ⟨g,2,none⟩ (.bool false)) 0 v0).trans ((T0 _ 1 v1).trans ((T0 _ 2 v2).trans ((T0 _ 3 v3).trans (T0 _ 4 v4) (fun _ e _=>e)) (fun _ e _=>e)) (fun _ e _=>e)) (fun _ e _=>e);refine⟨q4,hP2.turns TT (by omega),?_⟩;have TG:∀(W:World) (j:Nat) (v:Value),Turns (fun k=>k=g) W (W.setCell ⟨g,j,none⟩ v):=fun W j v=>Turns.setCell _ W _ _ rfl;refine(Turns.of_below (S:=fun k=>k=g) hb).trans (((TG _ 1 _).trans (TG _ 2 _) (fun _ e _=>e)).mono (S':=fun k=>k=g∨k=w.heap.size) (fun k e=>Or.inl e) |>.trans (TT.mono (fun k e=>Or.inr e)) (fun _ e _=>e)) (fun k e hk=>?_);rcases e with e | e
 . exact e
 . omega
theorem XL (w:World)(g gh:Nat)(lp bd:Value)(S:Nat->Prop)(h:Rq.Hd)(hP:jg w g lp (.pointer (some ⟨gh,0,none⟩)) true bd 0)(hH:jG w S gh h)(hg:¬S g):
 Calls prog 104 #[.pointer (some ⟨g,0,none⟩)] w fun e w'=>∃fo gM,e=.returned (.agg #[.string ⟨h.method.toArray⟩,.string ⟨h.target.toArray⟩,.int .i64 (h.minor:Int),.slice fo h.fields.length gM,.int .i64 h.length])∧jg w' g lp (.pointer none) false bd 0∧nE w' S fo gM h.fields.length (gU (Rq.ny h.fields))∧Turns (fun k=>k=g) w w':=by
 have J8:=H9 hP;obtain⟨fo,gM,hr,ho,h1,h2⟩:=hH;have hV:nE w S fo gM h.fields.length (gU (Rq.ny h.fields)):=⟨ho.nQ,fun _ a e=>h2 a e⟩;have HV:=H9 hV;have OZ:=H9 hg
 have hb1:aj w (w.alloc (.cells #[.string ⟨#[]⟩,.string ⟨#[]⟩,.int .i64 0,.slice none 0 0,.int .i64 0] 68)):=(fJ _ _).alloc (aM _) _;have hrow:=(hb1.block gh (aL.1 hr).1).trans hr;have c1:=(hP.stay hb1).c1;have r0:=fK _ gh 0 _ _ _ hrow;have r1:=fK _ gh 1 _ _ _ hrow;have r2:=fK _ gh 2 _ _ _ hrow;have r3:=fK _ gh 3 _ _ _ hrow;have r4:=fK _ gh 4 _ _ _ hrow;have hlt:=hP.lt;have n1:g≠w.heap.size:=by omega
 have n2:g≠w.heap.size+1:=by omega
 clear hrow hr ho h1 h2 hV hg hlt;generalize (⟨h.method.toArray⟩:ay)=mm at *;generalize (⟨h.target.toArray⟩:ay)=tt at *;generalize h.fields.length=nn at *;generalize h.length=ll at *;have hb2:aj w ((w.alloc (.cells #[.string ⟨#[]⟩,.string ⟨#[]⟩,.int .i64 0,.slice none 0 0,.int .i64 0] 68)).alloc (.cells #[.string mm,.string tt,.int .i64 (h.minor:Int),.slice fo nn gM,.int .i64 ll] 68)):=hb1.trans ((fJ _ _).alloc hb1.size _);have p1:=(hP.stay hb2).c1;have p2:=(hP.stay hb2).c2;have pf1:=(hP.stay hb2).fz 1;have pf2:=(hP.stay hb2).fz 2;have HB2:=H9 hb2;clear hP hb1 hb2;go_enter func104,ntmps104;go_wp2;obtain⟨o1,o2,o3⟩:=XK w g lp _ bd _ (.string mm) (.string tt) (.int .i64 (h.minor:Int)) (.slice fo nn gM) (.int .i64 ll) J8.o;revert o1 o2 o3;generalize (((((((((w.alloc (.cells #[.string ⟨#[]⟩,.string ⟨#[]⟩,.int .i64 0,.slice none 0 0,.int .i64 0] 68)).alloc (.cells #[.string mm,.string tt,.int .i64 (h.minor:Int),.slice fo nn gM,.int .i64 ll] 68)).setCell ⟨g,1,none⟩ (.pointer none)).setCell ⟨g,2,none⟩ (.bool false)).setCell ⟨w.heap.size,0,none⟩ (.string mm)).setCell ⟨w.heap.size,1,none⟩ (.string tt)).setCell ⟨w.heap.size,2,none⟩ (.int .i64 (h.minor:Int))).setCell ⟨w.heap.size,3,none⟩ (.slice fo nn gM)).setCell ⟨w.heap.size,4,none⟩ (.int .i64 ll))=wf;intro o1 o2 o3;have z0:=fK wf w.heap.size 0 _ _ _ o1;have z1:=fK wf w.heap.size 1 _ _ _ o1;have z2:=fK wf w.heap.size 2 _ _ _ o1;have z3:=fK wf w.heap.size 3 _ _ _ o1;have z4:=fK wf w.heap.size 4 _ _ _ o1;refine gy (v:=.agg #[.string mm,.string tt,.int .i64 (h.minor:Int),.slice fo nn gM,.int .i64 ll]) (by simp[results,results104,go_sem,z0,z1,z2,z3,z4]) rfl ⟨fo,gM,rfl,o2,?_,o3⟩;exact HV.o.turns o3 (fun k hk e=>OZ.o (e▸hk))
theorem jg.failed {w:World}{g:Nat}{lp hp bd:Value}{wh:Bool}{code:Int}(h:jg w g lp hp wh bd code)(c:Int):
 jg (((((w.setCell ⟨g,0,none⟩ (.pointer none)).setCell ⟨g,1,none⟩ (.pointer none)).setCell ⟨g,2,none⟩ (.bool false)).setCell ⟨g,3,none⟩ .nilIface).setCell ⟨g,4,none⟩ (.int .i64 c)) g (.pointer none) (.pointer none) false .nilIface c ∧
 Turns (fun k=>k=g) w (((((w.setCell ⟨g,0,none⟩ (.pointer none)).setCell ⟨g,1,none⟩ (.pointer none)).setCell ⟨g,2,none⟩ (.bool false)).setCell ⟨g,3,none⟩ .nilIface).setCell ⟨g,4,none⟩ (.int .i64 c)):=by
 have TG:∀(W:World) (j:Nat) (v:Value),Turns (fun k=>k=g) W (W.setCell ⟨g,j,none⟩ v):=fun W j v=>Turns.setCell _ W _ _ rfl;exact⟨((((h.s0 _).s1 _).s2 _).s3 _).s4 _,(TG _ 0 _).trans ((TG _ 1 _).trans ((TG _ 2 _).trans ((TG _ 3 _).trans (TG _ 4 _) (fun _ e _=>e)) (fun _ e _=>e)) (fun _ e _=>e)) (fun _ e _=>e)⟩
inductive Z6 (w:World)(g:Nat)(So:Nat->Prop)(es:List Rq.Ev)(c:Nat)(e:Ending)(w':World):Prop
 | mk (ao:ak) (cap n:Nat) (he:e=.returned (.slice ao n cap)) (hn:n=(Rq.join (es++[.fail c])).length) (hO:nW w' (gN So w) ao cap (Rq.join (es++[.fail c]))) (hP:jg w' g (.pointer none) (.pointer none) false .nilIface (c:Int)) (hT:Turns (fun k=>So k∨k=g) w w')
theorem Fe (w:World)(g:Nat)(lp hp bd:Value)(wh:Bool)(code:Int)(So:Nat->Prop)(ao:ak)(cap n c:Nat)(es:List Rq.Ev)(hP:jg w g lp hp wh bd code)(h:nW w So ao cap es)(hg:¬So g)(hn:es.length=n)(hl:n<=100000)(hj:Rq.Joined es)(hf:Rq.Full es)(hz:Rq.jE es<=100000):
 Calls prog 103 #[.pointer (some ⟨g,0,none⟩),.slice ao n cap,.int .i64 (c:Int)] w fun e w'=>Z6 w g So es c e w':=by
 obtain⟨Na,xQ⟩:=hP.failed (c:Int);have HP5:=H9 Na;have Xm:=H9 xQ
 have HA:=H9 (XI _ So ao cap n c es (h.turns xQ (fun k hk e=>hg (e▸hk))) hn hl hj hf hz);have OZ:=H9 hg;have c0:=hP.c0;have c1:=hP.c1;have c2:=hP.c2;have c3:=hP.c3;have c4:=hP.c4
 have f0:=hP.fz 0;have f1:=hP.fz 1;have f2:=hP.fz 2;have f3:=hP.fz 3;have f4:=hP.fz 4
 clear hP h hg hn hj hf hz Na xQ;go_enter func103,ntmps103;go_wp2_with fail
 refine HA.o.mono ?_;rintro e w1 ⟨zU,ow,n1,rfl,hn1,qz,hT1⟩;have Zw:=H9 hn1;have CK:=H9 qz;have HT1:=H9 hT1
 clear hn1 qz hT1;go_wp2;go_ret;refine .mk zU ow n1 rfl Zw.o (CK.o.mono (fun k _ e=>?_)) (HP5.o.turns HT1.o OZ.o) ?_
 . rcases e with e | e | e
   . exact Or.inl e
   . exact e.elim
   . exact Or.inr (by simpa using e)
 . exact(Xm.o.mono (fun k e=>Or.inr e)).trans (HT1.o.mono (fun k e=>Or.inl e)) (fun _ e _=>e)
theorem MC {w:World}{gb left:Nat}{v:Value}{c:UInt8}(hlt:gb<w.heap.size)(hr:(w.setCell ⟨gb,0,none⟩ v).heap[gb]? = some (.cells #[.int .i64 (left:Int)] 208 (0,0))):
 ((w.setCell ⟨gb,0,none⟩ v).alloc (.cells #[.int .u8 (c.toNat:Int)] 5)).drew.heap[gb]? = some (.cells #[.int .i64 (left:Int)] 208 (0,0))∧iF ((w.setCell ⟨gb,0,none⟩ v).alloc (.cells #[.int .u8 (c.toNat:Int)] 5)).drew 0 5 (some ⟨w.heap.size,0,none⟩) 1 [c]∧Turns (fun k=>k=gb) w ((w.setCell ⟨gb,0,none⟩ v).alloc (.cells #[.int .u8 (c.toNat:Int)] 5)).drew:=by
 have hz:(w.setCell ⟨gb,0,none⟩ v).heap.size=w.heap.size:=by simp
 have hA:Below (w.setCell ⟨gb,0,none⟩ v).heap.size (w.setCell ⟨gb,0,none⟩ v) ((w.setCell ⟨gb,0,none⟩ v).alloc (.cells #[.int .u8 (c.toNat:Int)] 5)).drew:=((fJ _ _).alloc (aM _) _).trans ⟨rfl,rfl,rfl,aM _,fun _ _=>rfl⟩;refine⟨(hA.block gb (by omega)).trans hr,?_,(Turns.setCell (fun k=>k=gb) w _ _ rfl).trans (Turns.of_below hA) (fun _ e _=>e)⟩;have h1:iF ((w.setCell ⟨gb,0,none⟩ v).alloc (.cells #[.int .u8 (c.toNat:Int)] 5)) 0 5 (some ⟨w.heap.size,0,none⟩) 1 [c]:=by
  rw[<-hz];exact gF _ _ 1 (aA _) (by decide) rfl
 exact h1.stay (gQ _ _)
theorem ME (w:World)(gb left:Nat)(c:UInt8)(hr:w.heap[gb]? = some (.cells #[.int .i64 (left:Int)] 208 (0,0)))(h0:0<left)(h1:left<=4000):
 Calls prog 343 #[.pointer (some ⟨gb,0,none⟩),.int .u8 c.toNat] w fun e w'=>e=.returned (.tuple #[.slice (some ⟨w.heap.size,0,none⟩) 1 1,.bool (decide (left<=1)),.int .i64 0])∧w'.heap[gb]? = some (.cells #[.int .i64 ((left-1:Nat):Int)] 208 (0,0))∧iF w' 0 5 (some ⟨w.heap.size,0,none⟩) 1 [c]∧Turns (fun k=>k=gb) w w':=by
 have HR:=H9 hr;have hlt:gb<w.heap.size:=(aL.1 hr).1;have c0:w.cell? ⟨gb,0,none⟩=some (.int .i64 (left:Int)):=fK w gb 0 _ _ _ hr;have f0:w.frozen? ⟨gb,0,none⟩=false:=fM w gb 0 _ _ hr;have tz:((left:Int)-1==0)=decide (left<=1):=by rw[aH,aT,bR];omega
 have hr1:=fO w gb 0 _ _ (.int .i64 ((left:Int)-1)) hr;have hr1':(w.setCell ⟨gb,0,none⟩ (.int .i64 ((left:Int)-1))).heap[gb]? = some (.cells #[.int .i64 ((left-1:Nat):Int)] 208 (0,0)):=by
  rw[hr1];have:((left-1:Nat):Int)=(left:Int)-1:=by omega
  rw[this];rfl
 have HR1:=H9 hr1';have c1:(w.setCell ⟨gb,0,none⟩ (.int .i64 ((left:Int)-1))).cell? ⟨gb,0,none⟩=some (.int .i64 ((left:Int)-1)):=fK _ gb 0 _ _ _ hr1;have c2:((w.setCell ⟨gb,0,none⟩ (.int .i64 ((left:Int)-1))).alloc (.cells #[.int .u8 (c.toNat:Int)] 5)).cell? ⟨gb,0,none⟩=some (.int .i64 ((left:Int)-1)):=by
  rw[((fJ _ _).alloc (aM _) _).cell (p:=⟨gb,0,none⟩) (by simpa using hlt)];exact c1
 clear hr hr1 hr1';generalize decide (left<=1)=dd at *;go_enter func343,ntmps343;go_wp2;go_region
 all_goals (go_wp2;go_ret3;exact⟨rfl,MC hlt HR1.o⟩)
theorem JR (w:World)(k:Nat)(hk:0<k):
 Calls prog 106 #[.int .i64 (k:Int)] w fun e w'=>e=.returned (.iface 206 (.pointer (some ⟨w.heap.size,0,none⟩)))∧w'.heap[w.heap.size]? = some (.cells #[.int .i64 (k:Int)] 208 (0,0))∧aj w w':=by
 have t1:((k:Int)==-1)=false:=aS.2 (by omega);go_enter func106,ntmps106;go_wp2;go_ret;exact⟨rfl,fI w _,(fJ _ _).alloc (aM _) _⟩
theorem Gb (w:World):
 Calls prog 106 #[.int .i64 (-1)] w fun e w'=>∃g,e=.returned (.iface 204 (.pointer (some ⟨g,0,none⟩)))∧pV w' (fun k=>w.heap.size<=k) g Ck.start∧aj w w':=by
 go_enter func106,ntmps106;go_wp2_with fail
 refine(FW w).mono ?_;rintro e w1 ⟨g,rfl,hC,hB⟩;have HC:=H9 hC;have HB:=H9 hB
 clear hC hB;go_wp2;go_ret;exact⟨g,rfl,HC.o,HB.o⟩
inductive nK (w:World)(S So:Nat->Prop)(g:Nat)(s:Rq.St)(c:UInt8)(es:List Rq.Ev)(e:Ending)(w':World):Prop
 | mk (ao:ak) (cap n:Nat) (S' So':Nat->Prop) (he:e=.returned (.slice ao n cap)) (hn:n=(Rq.join (es++(Rq.next s c).2)).length) (hR:jI w' S' g (Rq.next s c).1) (hO:nW w' So' ao cap (Rq.join (es++(Rq.next s c).2)))
  (hd:∀k,S' k->¬So' k) (hS:∀k,S' k->S k∨w.heap.size<=k) (hSo:∀k,So' k->S k∨So k∨w.heap.size<=k) (hT:Turns (fun k=>S k∨So k) w w')
theorem added {es:List Rq.Ev}{e:Rq.Ev}{n m:Nat}(hn:es.length=n)(hm:m=(Rq.join (es++[e])).length)(hb:∀a,e=.body a->a≠[]∧a.length<=1)(hf:Rq.Full es):
 m<=n+1∧Rq.jE (Rq.join (es++[e]))<=Rq.jE es+1∧Rq.Full (Rq.join (es++[e]))∧Rq.Joined (Rq.join (es++[e])):=by
 have h1:=Rq.join_length (es++[e]);rw[aW] at h1;refine⟨by simp at h1;omega,?_,Rq.qX _ (Rq.BN hf (fun a ha=>?_)),Rq.mI _⟩
 . rw[Rq.qW,Rq.mO];cases e with
   | body a=>have:=(hb a rfl).2;simp only[Rq.jE];omega
   | head _=>simp[Rq.jE]
   | fin=>simp[Rq.jE]
   | fail _=>simp[Rq.jE]
 . simp at ha;exact(hb a ha.symm).1
theorem zf {w w1 w2:World}{A B C:Nat->Prop}{gl:Nat}{l:Ln.St}(h:iA w C gl l)(h1:Turns A w w1)(h2:Turns B w1 w2)(hA:∀k,C k->¬A k)(hB:∀k,C k->¬B k):iA w2 C gl l:=(h.turns h1 hA).turns h2 hB
theorem Fg (w:World)(S So:Nat->Prop)(g:Nat)(s:Rq.St)(c:UInt8)(ao:ak)(cap n:Nat)(es:List Rq.Ev)(h:jI w S g s)(hG:Rq.Good s)(hp:s.ph=2)(hO:nW w So ao cap es)(hd:∀k,S k->¬So k)(hn:es.length=n)(hl:n<=90000)(hj:Rq.Joined es)(hf:Rq.Full es)(hz:Rq.jE es<=90000):
 Calls prog 64 #[.pointer (some ⟨g,0,none⟩),.slice ao n cap,.int .u8 c.toNat] w fun e w'=>nK w S So g s c es e w':=by
 obtain⟨hg,lp,hpp,bd,code,hP,hI⟩:=h;cases hI with
 | dead c hc h4=>omega
 | Jp gl h0 L=>omega
 | K6 gl gh D h1 L H=>omega
 | at3 gl gb D h3 L B=>omega
 | at2 gl gb h2 L hb B =>
   obtain⟨l0,l1⟩:=hG.left hp;have c3:=hP.c3;have hgb:gb<w.heap.size:=(aL.1 B).1;have Ai:=hP.lt;have HC:=H9 (ME w gb s.left c B l0 l1);have hm:∀w,(method 456 206 (.pointer (some ⟨gb,0,none⟩)) "Feed").run prog w=.ok (343,.pointer (some ⟨gb,0,none⟩)) w:=fun _=>by kernel_rfl
   have HX:Hid (jI w S g s∧jg w g (.pointer (some ⟨gl,0,none⟩)) (.pointer none) false (.iface 206 (.pointer (some ⟨gb,0,none⟩))) 0∧iA w (fun k=>((S k∧k≠g)∧k≠gb)∧k<w.heap.size) gl s.ln∧(S gb∧gb≠g)∧(∀k,S k->¬So k)∧S g) :=
    ⟨⟨hg,_,_,_,_,hP,.at2 gl gb h2 L hb B⟩,hP,L.mono (fun k hk e=>⟨e,hk⟩),hb,hd,hg⟩
   have U1:=H9 (hO.mono (S':=fun k=>So k∧k<w.heap.size) (fun k hk e=>⟨e,hk⟩));have HE:=H9 (And.intro hn (And.intro hl (And.intro hj (And.intro hf hz))));have HLl:=H9 (And.intro l0 l1);have abb:s.ph≠4:=by omega
   have HN:Hid (Rq.next s c=if s.left<=1 then ({ s with ph:=0,left:=0 },[.body [c],.fin]) else ({ s with left:=s.left-1 },[.body [c]])):=by
    unfold Hid Rq.next;rw[if_neg abb,if_pos hp]
   clear hG hj hf hz hO hd L hb B hP hg hn l0 l1 abb h2;by_cases hov:s.left<=1
   . rw[aI hov] at HC;have HV:=H9 hov;clear hov;go_enter func64,ntmps64;go_wp2_with (go_at_call 343;refine HC.o.mono ?_;rintro e w1 ⟨rfl,hB1,qz,hT1⟩;have HB1:=H9 hB1;have CK:=H9 qz;have HT1:=H9 hT1;clear hB1 qz hT1)
     obtain⟨hn,hl,hj,hf,hz⟩:=HE.o;obtain⟨_,hP,hL,hb,hd,hg⟩:=HX.o;have hgrow:gZ w1 (fun k=>k=w.heap.size) 5 (some ⟨w.heap.size,0,none⟩) 1 [c]:=Or.inl ⟨by simp,CK.o,fun a e=>by injection e with e;subst e;rfl⟩;have hE1:=U1.o.turns HT1.o (fun k e e2=>hd gb hb.1 (e2▸e.1));refine(Fb w1 (fun k=>So k∧k<w.heap.size) (fun k=>k=w.heap.size) ao _ cap n 1 1 [c] es hE1 hgrow (by simp) rfl (by omega) (fun k e e2=>by omega) hn (by omega) hj hf (by omega)).mono ?_;rintro e w2 ⟨jy,cap2,n2,rfl,hn2,hO2,jV⟩;have hadd:=added hn hn2 (fun a e=>by injection e with e;subst e;exact⟨by simp,by simp⟩) hf;have hP2:jg w2 g _ _ _ _ _:=(hP.turns HT1.o (fun e=>hb.2 e.symm)).turns jV (fun e=>hd g hg e.1);have p3:=hP2.c3;have pf3:=hP2.fz 3;have uz:=H9 hP2;have BP:=H9 hO2;have HT2:=H9 jV;have Tv:=H9 hadd;have MZ:=H9 hn2
     clear hn hl hj hf hz hP hL hb hd hg hgrow hE1 hn2 hO2 jV hadd hP2 c3;go_wp2_with fail
     obtain⟨hn,hl,hj,hf,hz⟩:=HE.o;obtain⟨_,hP,hL,hb,hd,hg⟩:=HX.o;obtain⟨a1,a2,a3,a4⟩:=Tv.o;have hs1:=HT1.o.size;have hs2:=HT2.o.size;have CQ:=Turns.setCell (fun k=>k=g) w2 ⟨g,3,none⟩ .nilIface rfl;have hE3:=BP.o.turns CQ (fun k e e2=>by
      subst e2;rcases e with e | e | e
      . exact hd k hg e.1
      . omega
      . omega)
     refine(JQ _ _ jy cap2 n2 _ hE3 MZ.o.symm (by omega) a4 a3 (by omega)).mono ?_;rintro e w4 ⟨xS,cap4,n4,rfl,Ka,hO4,EU⟩;have HN4:=H9 Ka;have wz:=H9 hO4;have Ze:=H9 EU
     clear hn hl hj hf hz hP hL hb hd hg CQ hE3 Ka hO4 EU a1 a2 a3 a4 hs1 hs2;go_wp2;go_ret;obtain⟨hn,hl,hj,hf,hz⟩:=HE.o;obtain⟨_,hP,hL,hb,hd,hg⟩:=HX.o;have hs1:=HT1.o.size;have hs2:=HT2.o.size;have hz3:(w2.setCell ⟨g,3,none⟩ .nilIface).heap.size=w2.heap.size:=by simp
     have hN:=HN.o;rw[if_pos HV.o] at hN;have hj2:Rq.join (Rq.join (es++[.body [c]])++[.fin])=Rq.join (es++(Rq.next s c).2):=by rw[hN];exact Rq.KL es [.body [c]] [.fin]
     have CQ:=Turns.setCell (fun k=>k=g) w2 ⟨g,3,none⟩ .nilIface rfl;have hP4:=(uz.o.s3 .nilIface).turns Ze.o (fun e=>by
      rcases e with e | e | e
      . exact hd g hg e.1
      . omega
      . omega)
     have hL4:=((zf hL HT1.o HT2.o (fun k e=>e.1.2) (fun k e e2=>hd k e.1.1.1 e2.1)).turns CQ (fun k e=>e.1.1.2)).turns Ze.o (fun k e e2=>by
      rcases e2 with e2 | e2 | e2
      . exact hd k e.1.1.1 e2.1
      . have:=e.2;omega
      . have:=e.2;omega)
     refine .mk xS cap4 n4 (fun k=>S k∧k<w.heap.size) _ rfl (by rw[<-hj2];exact HN4.o) ?_ (by rw[<-hj2];exact wz.o) ?_ (fun k e=>Or.inl e.1) ?_ ?_
     . rw[hN];exact⟨⟨hg,Ai⟩,_,_,_,_,hP4,.Jp gl rfl (hL4.mono (fun k _ e=>⟨⟨e.1.1.1,e.2⟩,e.1.1.2⟩))⟩
     . intro k e e2;rcases e2 with (e2 | e2 | e2) | e2 | e2
       . exact hd k e.1 e2.1
       . omega
       . omega
       . exact e2
       . omega
     . intro k e;rcases e with (e | e | e) | e | e
       . exact Or.inr (Or.inl e.1)
       . exact Or.inr (Or.inr (by omega))
       . exact Or.inr (Or.inr (by omega))
       . exact e.elim
       . exact Or.inr (Or.inr (by omega))
     . refine(HT1.o.mono (fun k e=>by rw[e];exact Or.inl hb.1)).trans ((HT2.o.mono (S':=fun k=>(S k∨So k)∨w.heap.size<=k) (fun k e=>Or.inl (Or.inr e.1))).trans ((CQ.mono (fun k e=>by rw[e];exact Or.inl (Or.inl hg))).trans (Ze.o.mono (fun k e=>?_)) (fun _ e _=>e)) (fun _ e _=>e)) (fun k e hk=>?_)
       . rcases e with e | e | e
         . exact Or.inl (Or.inr e.1)
         . exact Or.inr (by omega)
         . exact Or.inr (by omega)
       . rcases e with e | e
         . exact e
         . omega
   . rw[aJ hov] at HC;have HV:=H9 hov;clear hov;go_enter func64,ntmps64;go_wp2_with (go_at_call 343;refine HC.o.mono ?_;rintro e w1 ⟨rfl,hB1,qz,hT1⟩;have HB1:=H9 hB1;have CK:=H9 qz;have HT1:=H9 hT1;clear hB1 qz hT1)
     obtain⟨hn,hl,hj,hf,hz⟩:=HE.o;obtain⟨_,hP,hL,hb,hd,hg⟩:=HX.o;have hgrow:gZ w1 (fun k=>k=w.heap.size) 5 (some ⟨w.heap.size,0,none⟩) 1 [c]:=Or.inl ⟨by simp,CK.o,fun a e=>by injection e with e;subst e;rfl⟩;have hE1:=U1.o.turns HT1.o (fun k e e2=>hd gb hb.1 (e2▸e.1));refine(Fb w1 (fun k=>So k∧k<w.heap.size) (fun k=>k=w.heap.size) ao _ cap n 1 1 [c] es hE1 hgrow (by simp) rfl (by omega) (fun k e e2=>by omega) hn (by omega) hj hf (by omega)).mono ?_;rintro e w2 ⟨jy,cap2,n2,rfl,hn2,hO2,jV⟩;have BP:=H9 hO2;have HT2:=H9 jV;have MZ:=H9 hn2
     clear hn hl hj hf hz hP hL hb hd hg hgrow hE1 hn2 hO2 jV c3;go_wp2;go_ret;obtain⟨hn,hl,hj,hf,hz⟩:=HE.o;obtain⟨_,hP,hL,hb,hd,hg⟩:=HX.o;have hs1:=HT1.o.size;have hN:=HN.o;rw[if_neg HV.o] at hN;have hP2:=(hP.turns HT1.o (fun e=>hb.2 e.symm)).turns HT2.o (fun e=>hd g hg e.1);have hB2:=HT2.o.row HB1.o (fun e=>hd gb hb.1 e.1);have hL2:=zf hL HT1.o HT2.o (fun k e=>e.1.2) (fun k e e2=>hd k e.1.1.1 e2.1);refine .mk jy cap2 n2 (fun k=>S k∧k<w.heap.size) _ rfl (by rw[hN];exact MZ.o) ?_ (by rw[hN];exact BP.o) ?_ (fun k e=>Or.inl e.1) ?_ ?_
     . rw[hN];exact⟨⟨hg,Ai⟩,_,_,_,_,hP2,.at2 gl gb hp (hL2.mono (fun k _ e=>⟨⟨⟨e.1.1.1,e.2⟩,e.1.1.2⟩,e.1.2⟩)) ⟨⟨hb.1,hgb⟩,hb.2⟩ hB2⟩
     . intro k e e2;rcases e2 with e2 | e2 | e2
       . exact hd k e.1 e2.1
       . omega
       . omega
     . intro k e;rcases e with e | e | e
       . exact Or.inr (Or.inl e.1)
       . exact Or.inr (Or.inr (by omega))
       . exact Or.inr (Or.inr (by omega))
     . exact(HT1.o.mono (fun k e=>by rw[e];exact Or.inl hb.1)).trans (HT2.o.mono (fun k e=>Or.inr e.1)) (fun _ e _=>e)
theorem Gd (w:World)(S So:Nat->Prop)(g:Nat)(s:Rq.St)(c:UInt8)(ao:ak)(cap n:Nat)(es:List Rq.Ev)(h:jI w S g s)(hG:Rq.Good s)(hp:s.ph=3)(hk1:s.ck.ph=1)(hO:nW w So ao cap es)(hd:∀k,S k->¬So k)(hn:es.length=n)(hl:n<=90000)(hj:Rq.Joined es)(hf:Rq.Full es)(hz:Rq.jE es<=90000):
 Calls prog 64 #[.pointer (some ⟨g,0,none⟩),.slice ao n cap,.int .u8 c.toNat] w fun e w'=>nK w S So g s c es e w':=by
 obtain⟨hg,lp,hpp,bd,code,hP,hI⟩:=h;cases hI with
 | dead c hc h4=>omega
 | Jp gl h0 L=>omega
 | K6 gl gh D h1 L H=>omega
 | at2 gl gb h2 L hb B=>omega
 | at3 gl gb D h3 L B =>
   obtain⟨kg,k0,k4⟩:=hG.ck hp;have c3:=hP.c3;have Ai:=hP.lt;have HC:=H9 (Pk w (fun k=>((S k∧k≠g)∧D k)∧k<w.heap.size) gb s.ck c (B.mono (fun k hk e=>⟨e,hk⟩)) kg k0 hk1);have hm:∀w,(method 456 204 (.pointer (some ⟨gb,0,none⟩)) "Feed").run prog w=.ok (338,.pointer (some ⟨gb,0,none⟩)) w:=fun _=>by kernel_rfl
   have hnx:Ck.next s.ck c={ s.ck with left:=s.ck.left-1,ph:=if s.ck.left<=1 then 2 else 1 }:=by unfold Ck.next;rw[if_neg (fun e=>e k0),if_neg (by omega),if_pos hk1]
   have HN:Hid (Rq.next s c=({ s with ck:=Ck.next s.ck c },[.body [c]])):=by
    unfold Hid Rq.next;rw[if_neg (by omega),if_neg (by omega),if_pos hp,if_neg (by rw[hnx];exact fun e=>e k0),if_neg (by rw[hnx];show ¬(if s.ck.left<=1 then 2 else 1)=4;split <;> omega)];have ho:Ck.out s.ck c=[c]:=by unfold Ck.out;rw[if_pos ⟨k0,hk1⟩]
    rw[ho];unfold Rq.some_;rw[if_neg (by simp)]
   have HX:Hid (jg w g (.pointer (some ⟨gl,0,none⟩)) (.pointer none) false (.iface 204 (.pointer (some ⟨gb,0,none⟩))) 0∧iA w (fun k=>((S k∧k≠g)∧¬D k)∧k<w.heap.size) gl s.ln∧(∀k,S k->¬So k)∧S g) :=
    ⟨hP,L.mono (fun k hk e=>⟨e,hk⟩),hd,hg⟩
   have U1:=H9 (hO.mono (S':=fun k=>So k∧k<w.heap.size) (fun k hk e=>⟨e,hk⟩));have HE:=H9 (And.intro hn (And.intro hl (And.intro hj (And.intro hf hz))));clear hG hj hf hz hO hd L B hP hg hn kg k0 k4 hnx h3;go_enter func64,ntmps64;go_wp2_with (go_at_call 338;refine HC.o.mono ?_;rintro e w1 ⟨rfl,hB1,qz,hT1⟩;have HB1:=H9 hB1;have CK:=H9 qz;have HT1:=H9 hT1;clear hB1 qz hT1)
   obtain⟨hn,hl,hj,hf,hz⟩:=HE.o;obtain⟨hP,hL,hd,hg⟩:=HX.o;have hgrow:gZ w1 (fun k=>k=w.heap.size) 5 (some ⟨w.heap.size,0,none⟩) 1 [c]:=Or.inl ⟨by simp,CK.o,fun a e=>by injection e with e;subst e;rfl⟩;have hE1:=U1.o.turns HT1.o (fun k e e2=>hd k e2.1.1.1 e.1);refine(Fb w1 (fun k=>So k∧k<w.heap.size) (fun k=>k=w.heap.size) ao _ cap n 1 1 [c] es hE1 hgrow (by simp) rfl (by omega) (fun k e e2=>by omega) hn (by omega) hj hf (by omega)).mono ?_;rintro e w2 ⟨jy,cap2,n2,rfl,hn2,hO2,jV⟩;have BP:=H9 hO2;have HT2:=H9 jV;have MZ:=H9 hn2
   clear hn hl hj hf hz hP hL hd hg hgrow hE1 hn2 hO2 jV c3;go_wp2;go_ret;obtain⟨hn,hl,hj,hf,hz⟩:=HE.o;obtain⟨hP,hL,hd,hg⟩:=HX.o;have hs1:=HT1.o.size;have hN:=HN.o;have hP2:=(hP.turns HT1.o (fun e=>e.1.1.2 rfl)).turns HT2.o (fun e=>hd g hg e.1);have hL2:=zf hL HT1.o HT2.o (fun k e e2=>e.1.2 e2.1.2) (fun k e e2=>hd k e.1.1.1 e2.1);have hB2:=(HB1.o.turns HT2.o (fun k e e2=>hd k e.1.1.1 e2.1));refine .mk jy cap2 n2 (fun k=>S k∧k<w.heap.size) _ rfl (by rw[hN];exact MZ.o) ?_ (by rw[hN];exact BP.o) ?_ (fun k e=>Or.inl e.1) ?_ ?_
   . rw[hN];exact⟨⟨hg,Ai⟩,_,_,_,_,hP2,.at3 gl gb D hp (hL2.mono (fun k _ e=>⟨⟨⟨e.1.1.1,e.2⟩,e.1.1.2⟩,e.1.2⟩)) (hB2.mono (fun k _ e=>⟨⟨⟨e.1.1.1,e.2⟩,e.1.1.2⟩,e.1.2⟩))⟩
   . intro k e e2;rcases e2 with e2 | e2 | e2
     . exact hd k e.1 e2.1
     . omega
     . omega
   . intro k e;rcases e with e | e | e
     . exact Or.inr (Or.inl e.1)
     . exact Or.inr (Or.inr (by omega))
     . exact Or.inr (Or.inr (by omega))
   . exact(HT1.o.mono (fun k e=>Or.inl e.1.1.1)).trans (HT2.o.mono (fun k e=>Or.inr e.1)) (fun _ e _=>e)
theorem Gf (w:World)(S So:Nat->Prop)(g:Nat)(s:Rq.St)(c:UInt8)(ao:ak)(cap n:Nat)(es:List Rq.Ev)(h:jI w S g s)(hG:Rq.Good s)(hp:s.ph=3)(hk1:s.ck.ph≠1)(hO:nW w So ao cap es)(hd:∀k,S k->¬So k)(hn:es.length=n)(hl:n<=90000)(hj:Rq.Joined es)(hf:Rq.Full es)(hz:Rq.jE es<=90000):
 Calls prog 64 #[.pointer (some ⟨g,0,none⟩),.slice ao n cap,.int .u8 c.toNat] w fun e w'=>nK w S So g s c es e w':=by
 obtain⟨hg,lp,hpp,bd,code,hP,hI⟩:=h;cases hI with
 | dead c hc h4=>omega
 | Jp gl h0 L=>omega
 | K6 gl gh D h1 L H=>omega
 | at2 gl gb h2 L hb B=>omega
 | at3 gl gb D h3 L B =>
   obtain⟨kg,k0,k4⟩:=hG.ck hp;have c3:=hP.c3;have Ai:=hP.lt;have hC:=Eb w (fun k=>((S k∧k≠g)∧D k)∧k<w.heap.size) gb s.ck c (B.mono (fun k hk e=>⟨e,hk⟩)) kg;have ho:Ck.out s.ck c=[]:=by unfold Ck.out;rw[if_neg (fun e=>hk1 e.2)]
   have hov:Ck.over s.ck c=decide ((Ck.next s.ck c).code=0∧(Ck.next s.ck c).ph=4):=by unfold Ck.over;rw[decide_eq_decide];exact⟨fun e=>⟨e.2.2.1,e.2.2.2⟩,fun e=>⟨k0,k4,e.1,e.2⟩⟩
   have hC2:Calls prog 338 #[.pointer (some ⟨gb,0,none⟩),.int .u8 c.toNat] w fun e w'=>∃bo bc,e=.returned (.tuple #[.slice bo 0 bc,.bool (decide ((Ck.next s.ck c).code=0∧(Ck.next s.ck c).ph=4)),.int .i64 ((Ck.next s.ck c).code:Int)])∧pV w' (gN (fun k=>((S k∧k≠g)∧D k)∧k<w.heap.size) w) gb (Ck.next s.ck c)∧Turns (fun k=>((S k∧k≠g)∧D k)∧k<w.heap.size) w w':=by
    refine hC.mono ?_;rintro e w' ⟨bo,bc,he,_,hC',hT'⟩;refine⟨bo,bc,?_,hC',hT'⟩;rw[he,ho,hov];rfl
   have hm:∀w,(method 456 204 (.pointer (some ⟨gb,0,none⟩)) "Feed").run prog w=.ok (338,.pointer (some ⟨gb,0,none⟩)) w:=fun _=>by kernel_rfl
   have hN:Rq.next s c=if (Ck.next s.ck c).code≠0 then (Rq.dead s,[.fail (Ck.next s.ck c).code]) else if (Ck.next s.ck c).ph=4 then ({ s with ph:=0 },[.fin]) else ({ s with ck:=Ck.next s.ck c },[]):=by
    unfold Rq.next;rw[if_neg (by omega),if_neg (by omega),if_pos hp,ho];rfl
   have HX:Hid (jg w g (.pointer (some ⟨gl,0,none⟩)) (.pointer none) false (.iface 204 (.pointer (some ⟨gb,0,none⟩))) 0∧iA w (fun k=>((S k∧k≠g)∧¬D k)∧k<w.heap.size) gl s.ln∧(∀k,S k->¬So k)∧S g) :=
    ⟨hP,L.mono (fun k hk e=>⟨e,hk⟩),hd,hg⟩
   have U1:=H9 (hO.mono (S':=fun k=>So k∧k<w.heap.size) (fun k hk e=>⟨e,hk⟩));have HE:=H9 (And.intro hn (And.intro hl (And.intro hj (And.intro hf hz))));have HC:=H9 hC2;clear hG hj hf hz hO hd L B hP hg hn kg k0 k4 h3 hC hC2 ho hov hk1;generalize Ck.next s.ck c=ck' at *;by_cases hc0:ck'.code=0
   . rw[if_neg (fun e=>e hc0)] at hN;by_cases h4:ck'.ph=4
     . rw[if_pos h4] at hN;rw[aI ⟨hc0,h4⟩,hc0] at HC;have HN:=H9 hN;clear hN hc0 h4;go_enter func64,ntmps64;go_wp2_with (go_at_call 338;refine HC.o.mono ?_;rintro e w1 ⟨bo,bc,rfl,hB1,hT1⟩;have hP1:=HX.o.1.turns hT1 (fun e=>e.1.1.2 rfl);have p3:=hP1.c3;have pf3:=hP1.fz 3;have Z7:=H9 hP1;have HT1:=H9 hT1;clear hB1 hT1 hP1)
       obtain⟨hn,hl,hj,hf,hz⟩:=HE.o;obtain⟨hP,hL,hd,hg⟩:=HX.o;have CQ:=Turns.setCell (fun k=>k=g) w1 ⟨g,3,none⟩ .nilIface rfl;have hE1:=(U1.o.turns HT1.o (fun k e e2=>hd k e2.1.1.1 e.1)).turns CQ (fun k e e2=>hd g hg (e2▸e.1));refine(JQ _ _ ao cap n _ hE1 hn (by omega) hj hf (by omega)).mono ?_;rintro e w4 ⟨xS,cap4,n4,rfl,Ka,hO4,EU⟩;have HN4:=H9 Ka;have wz:=H9 hO4;have Ze:=H9 EU
       clear hn hl hj hf hz hP hL hd hg CQ hE1 Ka hO4 EU;go_wp2;go_ret;obtain⟨hP,hL,hd,hg⟩:=HX.o;have hs1:=HT1.o.size;have hz3:(w1.setCell ⟨g,3,none⟩ .nilIface).heap.size=w1.heap.size:=by simp
       have CQ:=Turns.setCell (fun k=>k=g) w1 ⟨g,3,none⟩ .nilIface rfl;have hP4:=(Z7.o.s3 .nilIface).turns Ze.o (fun e=>hd g hg e.1);have hL4:=((hL.turns HT1.o (fun k e e2=>e.1.2 e2.1.2)).turns CQ (fun k e=>e.1.1.2)).turns Ze.o (fun k e e2=>hd k e.1.1.1 e2.1);refine .mk xS cap4 n4 (fun k=>S k∧k<w.heap.size) _ rfl (by rw[HN.o];exact HN4.o) ?_ (by rw[HN.o];exact wz.o) ?_ (fun k e=>Or.inl e.1) ?_ ?_
       . rw[HN.o];exact⟨⟨hg,Ai⟩,_,_,_,_,hP4,.Jp gl rfl (hL4.mono (fun k _ e=>⟨⟨e.1.1.1,e.2⟩,e.1.1.2⟩))⟩
       . intro k e e2;rcases e2 with e2 | e2 | e2
         . exact hd k e.1 e2.1
         . exact e2
         . omega
       . intro k e;rcases e with e | e | e
         . exact Or.inr (Or.inl e.1)
         . exact e.elim
         . exact Or.inr (Or.inr (by omega))
       . exact(HT1.o.mono (fun k e=>Or.inl e.1.1.1)).trans ((CQ.mono (fun k e=>by rw[e];exact Or.inl hg)).trans (Ze.o.mono (fun k e=>Or.inr e.1)) (fun _ e _=>e)) (fun _ e _=>e)
     . rw[if_neg h4] at hN;rw[aJ (fun e=>h4 e.2),hc0] at HC;have HN:=H9 hN;clear hN hc0 h4;go_enter func64,ntmps64;go_wp2_with (go_at_call 338;refine HC.o.mono ?_;rintro e w1 ⟨bo,bc,rfl,hB1,hT1⟩;have HB1:=H9 hB1;have HT1:=H9 hT1;clear hB1 hT1)
       go_ret;obtain⟨hn,hl,hj,hf,hz⟩:=HE.o;obtain⟨hP,hL,hd,hg⟩:=HX.o;have hs1:=HT1.o.size;have hej:Rq.join (es++(Rq.next s c).2)=es:=by rw[HN.o,bW];exact Rq.jm es hj
       refine .mk ao cap n (fun k=>(S k∧k<w.heap.size)∨w.heap.size<=k) (fun k=>So k∧k<w.heap.size) rfl (by rw[hej];exact hn.symm) ?_ (by rw[hej];exact U1.o.turns HT1.o (fun k e e2=>hd k e2.1.1.1 e.1)) ?_ ?_ (fun k e=>Or.inr (Or.inl e.1)) (HT1.o.mono (fun k e=>Or.inl e.1.1.1))
       . rw[HN.o];refine⟨Or.inl ⟨hg,Ai⟩,_,_,_,_,hP.turns HT1.o (fun e=>e.1.1.2 rfl),.at3 gl gb (fun k=>D k∨w.heap.size<=k) hp ((hL.turns HT1.o (fun k e e2=>e.1.2 e2.1.2)).mono (fun k _ e=>⟨⟨Or.inl ⟨e.1.1.1,e.2⟩,e.1.1.2⟩,fun e2=>?_⟩)) (HB1.o.mono (fun k _ e=>?_))⟩
         . rcases e2 with e2 | e2
           . exact e.1.2 e2
           . have:=e.2;omega
         . rcases e with e | e
           . exact⟨⟨Or.inl ⟨e.1.1.1,e.2⟩,e.1.1.2⟩,Or.inl e.1.2⟩
           . exact⟨⟨Or.inr e,by omega⟩,Or.inr e⟩
       . intro k e e2;rcases e with e | e
         . exact hd k e.1 e2.1
         . omega
       . intro k e;rcases e with e | e
         . exact Or.inl e.1
         . exact Or.inr e
   . rw[if_pos hc0] at hN;rw[aJ (fun e=>hc0 e.1)] at HC;have HN:=H9 hN;have tc:((ck'.code:Int) != 0)=true:=by rw[cZ];omega
     have M6:=H9 hc0;clear hN hc0;generalize ck'.code=cc at *;go_enter func64,ntmps64;go_wp2_with (go_at_call 338;refine HC.o.mono ?_;rintro e w1 ⟨bo,bc,rfl,hB1,hT1⟩;have HT1:=H9 hT1;clear hB1 hT1)
     obtain⟨hn,hl,hj,hf,hz⟩:=HE.o;obtain⟨hP,hL,hd,hg⟩:=HX.o;refine(Fe w1 g _ _ _ _ _ (fun k=>So k∧k<w.heap.size) ao cap n cc es (hP.turns HT1.o (fun e=>e.1.1.2 rfl)) (U1.o.turns HT1.o (fun k e e2=>hd k e2.1.1.1 e.1)) (fun e=>hd g hg e.1) hn (by omega) hj hf (by omega)).mono ?_;rintro e w2 ⟨jy,cap2,n2,rfl,hn2,hO2,hP2,jV⟩;have MZ:=H9 hn2;have BP:=H9 hO2;have uz:=H9 hP2;have HT2:=H9 jV
     clear hn hl hj hf hz hP hL hd hg hn2 hO2 hP2 jV;go_wp2;go_ret;obtain⟨hP,hL,hd,hg⟩:=HX.o;have hs1:=HT1.o.size;refine .mk jy cap2 n2 (fun k=>k=g) _ rfl (by rw[HN.o];exact MZ.o) ?_ (by rw[HN.o];exact BP.o) ?_ (fun k e=>by rw[e];exact Or.inl hg) ?_ ?_
     . rw[HN.o];exact⟨rfl,_,_,_,_,uz.o,.dead cc M6.o rfl⟩
     . intro k e e2;subst e;rcases e2 with e2 | e2
       . exact hd k hg e2.1
       . omega
     . intro k e;rcases e with e | e
       . exact Or.inr (Or.inl e.1)
       . exact Or.inr (Or.inr (by omega))
     . refine(HT1.o.mono (fun k e=>Or.inl e.1.1.1)).trans (HT2.o.mono (fun k e=>?_)) (fun _ e _=>e);rcases e with e | e
       . exact Or.inr e.1
       . rw[e];exact Or.inl hg
end Go.Proofs.YtjmndjmhjleabaaGreatDoor