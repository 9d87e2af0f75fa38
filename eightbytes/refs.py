"""The calls on references.

A reference is a number of 64 bits. From the lowest bit on: address (32 bits), upper mark (8), lower mark (8),
power (4), seal (3), rights (9).
"""

ADDRESS_BITS = 4294967295
MARK_BITS = 255
POWER_BITS = 15
SEAL_BITS = 7
RIGHTS_BITS = 511

UPPER_PLACE = 32
LOWER_PLACE = 40
POWER_PLACE = 48
SEAL_PLACE = 52
RIGHTS_PLACE = 55

WINDOW_GRAINS = 256
WIDEST_POWER = 15
WIDEST_GRAIN_POWER = 24

WRAP = 18446744073709551616


def address_of(v):
    return v & ADDRESS_BITS


def upper_of(v):
    return (v >> UPPER_PLACE) & MARK_BITS


def lower_of(v):
    return (v >> LOWER_PLACE) & MARK_BITS


def power_of(v):
    return (v >> POWER_PLACE) & POWER_BITS


def seal_of(v):
    return (v >> SEAL_PLACE) & SEAL_BITS


def rights_of(v):
    return (v >> RIGHTS_PLACE) & RIGHTS_BITS


def grain_power(power):
    # The last power leaps to 24, so that 256 grains are the whole memory.
    if power == WIDEST_POWER:
        return WIDEST_GRAIN_POWER
    return power


def begin_of(v):
    """Where v begins; below 0 if its address lies below the lower mark's place in the first window."""
    grain = 1 << grain_power(power_of(v))
    window = WINDOW_GRAINS * grain
    mark = lower_of(v) * grain
    # Floor division rounds downwards below 0 too: the beginning is never above the address.
    return (address_of(v) - mark) // window * window + mark


def length_of(v):
    grain = 1 << grain_power(power_of(v))
    return (upper_of(v) - lower_of(v)) % WINDOW_GRAINS * grain


def look(v):
    begin = begin_of(v) % WRAP
    return [0, begin, length_of(v), address_of(v), seal_of(v), rights_of(v), grain_power(power_of(v))]


def root(rights):
    upper = MARK_BITS << UPPER_PLACE
    power = WIDEST_POWER << POWER_PLACE
    kept = (rights & RIGHTS_BITS) << RIGHTS_PLACE
    return [1, upper | power | kept]
